package state

import (
	"bytes"
	"crypto/hmac"
	"crypto/sha256"
	"encoding/binary"
	"fmt"
	"maps"
	"slices"

	"seneschal/api"
	"seneschal/quota"
	"seneschal/replies"
	"seneschal/request"
	"seneschal/space"
	"seneschal/token"
)

// The chapter's numbers, written out.
const (
	clock   = 1 << 40
	tenants = 8
	clients = 4
	keys    = 64
	room    = 4096
	serials = 32
)

// root is the examples' root.
var root = bytes.Repeat([]byte{1}, 32)

// needs are the rights that ops need: none of 0, where there is no op.
var needs = [11]uint8{0, 1, 2, 2, 2, 4, 8, 8, 8, 8, 8}

// numbers tells the bytes of numbers.
func numbers(l ...int) []byte {
	var b []byte
	for _, n := range l {
		b = binary.BigEndian.AppendUint64(b, uint64(n))
	}
	return b
}

// mac tells the HMAC of bytes by Go's own means.
func mac(key, b []byte) api.Tag {
	h := hmac.New(sha256.New, key)
	h.Write(b)
	return api.Tag(h.Sum(nil))
}

// keyOf tells a tenant's key.
func keyOf(root []byte, tenant int) []byte {
	k := mac(root, append([]byte("tenant\x00"), numbers(tenant)...))
	return k[:]
}

// minted tells the token of these grants, one behind the other, whatever they are.
func minted(root []byte, tenant int, line ...api.Grant) api.Token {
	t := api.Token{Tenant: tenant, Line: line}
	key, ahead := keyOf(root, tenant), numbers(tenant)
	for _, g := range line {
		t.Tag = mac(key, append(ahead, numbers(int(g.Rights), g.Expiry, g.Serial)...))
		key, ahead = t.Tag[:], nil
	}
	return t
}

// printed tells a token's bytes, whatever it is.
func printed(t api.Token) []byte {
	b := numbers(t.Tenant, len(t.Line))
	for _, g := range t.Line {
		b = append(b, numbers(int(g.Rights), g.Expiry, g.Serial)...)
	}
	return append(b, t.Tag[:]...)
}

// own tells a tenant's token with these rights that never expires, of the serial 1.
func own(tenant int, rights uint8) api.Token {
	return minted(root, tenant, api.Grant{Rights: rights, Expiry: clock, Serial: 1})
}

// form tells a request's form, whatever it is.
func form(by api.Token, q api.Request) []byte {
	var b []byte
	put := func(s string) {
		b = append(binary.BigEndian.AppendUint32(b, uint32(len(s))), s...)
	}
	b = append(b, q.Op)
	put(string(printed(by)))
	put(q.Key)
	put(q.Value)
	put(q.Old)
	b = append(b, numbers(q.N, q.Tenant, q.Keys, q.Space)...)
	return append(append(b, q.Grant.Rights), numbers(q.Grant.Expiry, q.Grant.Serial)...)
}

// replyText tells all that a reply has, as a text: of keys that are nil the same as of none.
func replyText(r api.Reply) string {
	return fmt.Sprintf("error %d value %q keys %q n %d link %d", r.Err, r.Value, r.Keys, r.N, r.Link)
}

// tenantText tells all that a tenant has, as a text.
func tenantText(t Tenant) string {
	return fmt.Sprintf("tenant %d serials %d limits %d %d pairs %q revoked %d", t.Number, t.Serials, t.Space.Keys, t.Space.Bytes, t.Space.Pairs, t.Revoked)
}

// text tells all that a state has, as a text.
func text(s State) string {
	b := fmt.Appendf(nil, "pos %d shares %d\n", s.Pos, s.Shares)
	for _, t := range s.Tenants {
		b = fmt.Appendf(b, "%s\n", tenantText(t))
	}
	for _, x := range s.Links {
		b = fmt.Appendf(b, "link %d\n", x)
	}
	for _, x := range s.Lasts {
		b = fmt.Appendf(b, "last %d %d %s\n", x.Client, x.ID, replyText(x.Reply))
	}
	return string(b)
}

// deep tells a state that shares nothing with that one.
func deep(s State) State {
	d := State{Pos: s.Pos}
	d.Shares = append([]quota.Share{}, s.Shares...)
	d.Links = append([]api.Link{}, s.Links...)
	for _, t := range s.Tenants {
		t.Space.Pairs = append([]space.Pair{}, t.Space.Pairs...)
		t.Revoked = append([]int{}, t.Revoked...)
		d.Tenants = append(d.Tenants, t)
	}
	for _, x := range s.Lasts {
		x.Reply.Keys = append([]string{}, x.Reply.Keys...)
		d.Lasts = append(d.Lasts, x)
	}
	return d
}

// ward is a tenant as a model has it, at its number's place.
type ward struct {
	there       bool
	serials     int
	keys, bytes int
	pairs       map[string]string
	revoked     map[int]bool
}

// model is a state as arrays and maps.
type model struct {
	pos   int
	wards [tenants + 1]ward
	links []api.Link
	lasts [clients]struct {
		id    int
		reply api.Reply
	}
}

// laid tells it as a state.
func (m *model) laid() State {
	s := State{Pos: m.pos, Links: slices.Clone(m.links)}
	for number, w := range m.wards {
		if w.there {
			t := Tenant{Number: number, Serials: w.serials, Space: space.Space{Keys: w.keys, Bytes: w.bytes}, Revoked: slices.Sorted(maps.Keys(w.revoked))}
			for _, key := range slices.Sorted(maps.Keys(w.pairs)) {
				t.Space.Pairs = append(t.Space.Pairs, space.Pair{Key: key, Value: w.pairs[key]})
			}
			s.Tenants = append(s.Tenants, t)
			if number > 0 {
				s.Shares = append(s.Shares, quota.Share{Tenant: number, Keys: w.keys, Space: w.bytes})
			}
		}
	}
	for client, x := range m.lasts {
		if x.id > 0 {
			s.Lasts = append(s.Lasts, replies.Last{Client: client, ID: x.id, Reply: x.reply})
		}
	}
	return s
}

// modelOf tells a state as a model; false of one that may not be: that isn't as it is laid, or whose numbers may not be.
func modelOf(s State) (*model, bool) {
	m := &model{pos: s.Pos, links: slices.Clone(s.Links)}
	for _, t := range s.Tenants {
		if t.Number < 0 || t.Number > tenants {
			return nil, false
		}
		w := ward{there: true, serials: t.Serials, keys: t.Space.Keys, bytes: t.Space.Bytes, pairs: map[string]string{}, revoked: map[int]bool{}}
		for _, p := range t.Space.Pairs {
			w.pairs[p.Key] = p.Value
		}
		for _, n := range t.Revoked {
			w.revoked[n] = true
		}
		m.wards[t.Number] = w
	}
	for _, x := range s.Lasts {
		if x.Client < 0 || x.Client >= clients || x.ID < 1 || x.ID > clock {
			return nil, false
		}
		m.lasts[x.Client].id, m.lasts[x.Client].reply = x.ID, x.Reply
	}
	return m, m.right() && text(m.laid()) == text(s)
}

// right tells whether all numbers of a model may be.
func (m *model) right() bool {
	if m.pos < 0 || m.pos > clock || !m.wards[0].there || m.wards[0].serials < 1 || m.wards[0].keys != 0 || m.wards[0].bytes != 0 {
		return false
	}
	k, b := 0, 0
	for _, w := range m.wards {
		if w.serials < 0 || w.serials > clock || w.keys < 0 || w.keys > keys || w.bytes < 0 || w.bytes > room || len(w.revoked) > serials || !w.fits() {
			return false
		}
		for n := range w.revoked {
			if n < 1 || n > clock {
				return false
			}
		}
		for key, value := range w.pairs {
			if len(key) < 1 || len(key) > 24 || len(value) > 64 {
				return false
			}
		}
		k, b = k+w.keys, b+w.bytes
	}
	return k <= keys && b <= room
}

// fits tells whether a tenant's keys are within its limits.
func (w *ward) fits() bool {
	n := 0
	for key, value := range w.pairs {
		n += len(key) + len(value)
	}
	return len(w.pairs) <= w.keys && n <= w.bytes
}

// left tells whether all tenants' limits are within what there is, if that one has these.
func (m *model) left(tenant, k, b int) bool {
	for number, w := range m.wards {
		if number != tenant {
			k, b = k+w.keys, b+w.bytes
		}
	}
	return k <= keys && b <= room
}

// do does a request, as the chapter's words have it.
func (m *model) do(root []byte, stamp int, body []byte) api.Reply {
	q, e := request.Parse(body)
	if e != 0 {
		return api.Reply{Err: 150}
	}
	t, e := token.Parse(q.Token)
	if e != 0 {
		return api.Reply{Err: 90}
	}
	if minted(root, t.Tenant, t.Line...).Tag != t.Tag {
		return api.Reply{Err: 91}
	}
	w := &m.wards[t.Tenant]
	if !w.there {
		return api.Reply{Err: 160}
	}
	var revoked, expired, unfit bool
	for _, g := range t.Line {
		revoked = revoked || w.revoked[g.Serial]
		expired = expired || g.Expiry <= stamp
		unfit = unfit || needs[q.Op]&^g.Rights != 0
	}
	switch {
	case revoked:
		return api.Reply{Err: 93}
	case expired:
		return api.Reply{Err: 92}
	case unfit || q.Op > 5 && t.Tenant > 0:
		return api.Reply{Err: 94}
	case q.Op > 5:
		return m.administer(root, stamp, q)
	}
	return w.serve(q)
}

// serve does a tenant's request.
func (w *ward) serve(q api.Request) api.Reply {
	is, there := w.pairs[q.Key]
	switch {
	case q.Op == 5:
		var l []string
		for _, key := range slices.Sorted(maps.Keys(w.pairs)) {
			if key >= q.Key && len(l) < q.N {
				l = append(l, key)
			}
		}
		return api.Reply{Keys: l}
	case q.Op != 2 && !there:
		return api.Reply{Err: 110}
	case q.Op == 1:
		return api.Reply{Value: is}
	case q.Op == 4:
		delete(w.pairs, q.Key)
		return api.Reply{}
	case q.Op == 3 && is != q.Old:
		return api.Reply{Err: 111}
	}
	w.pairs[q.Key] = q.Value
	if w.fits() {
		return api.Reply{}
	}
	if delete(w.pairs, q.Key); there {
		w.pairs[q.Key] = is
	}
	return api.Reply{Err: 120}
}

// administer does an admin's request.
func (m *model) administer(root []byte, stamp int, q api.Request) api.Reply {
	w := &m.wards[q.Tenant]
	var r api.Reply
	a, b, c := q.Keys, q.Space, 0
	switch q.Op {
	case 6, 7:
		switch {
		case q.Keys > keys || q.Space > room:
			return api.Reply{Err: 2}
		case q.Op == 7 && !w.there:
			return api.Reply{Err: 160}
		case q.Op == 6 && w.there:
			return api.Reply{Err: 161}
		case !m.left(q.Tenant, q.Keys, q.Space) || q.Keys < w.keys || q.Space < w.bytes:
			return api.Reply{Err: 120}
		}
		if q.Op == 6 {
			*w = ward{there: true, pairs: map[string]string{}, revoked: map[int]bool{}}
		}
		w.keys, w.bytes = q.Keys, q.Space
	case 8:
		switch {
		case !w.there:
			return api.Reply{Err: 160}
		case w.serials == clock:
			return api.Reply{Err: 2}
		case q.Grant.Rights > 7 && q.Tenant > 0:
			return api.Reply{Err: 94}
		}
		w.serials++
		a, b, c = int(q.Grant.Rights), q.Grant.Expiry, w.serials
		r.Value, r.N = string(printed(minted(root, q.Tenant, api.Grant{Rights: q.Grant.Rights, Expiry: b, Serial: c}))), c
	case 9:
		switch {
		case !w.there:
			return api.Reply{Err: 160}
		case q.N == 0:
			return api.Reply{Err: 2}
		case !w.revoked[q.N] && len(w.revoked) == serials:
			return api.Reply{Err: 4}
		}
		w.revoked[q.N] = true
		a, b = q.N, 0
	case 10:
		if q.N < 1 || q.N > len(m.links) {
			return api.Reply{Err: 130}
		}
		return api.Reply{Link: m.links[q.N-1]}
	}
	m.link(stamp, q.Op, q.Tenant, a, b, c)
	return r
}

// link adds a link, with tags by Go's own means.
func (m *model) link(stamp int, op uint8, tenant, a, b, c int) {
	x := api.Link{N: len(m.links) + 1, Stamp: stamp, Op: op, Tenant: tenant, A: a, B: b, C: c}
	if x.N > 1 {
		x.Ahead = m.links[x.N-2].Self
	}
	x.Self = sha256.Sum256(append(numbers(x.N, stamp, int(op), tenant, a, b, c), x.Ahead[:]...))
	m.links = append(m.links, x)
}

// apply does an entry, as the chapter's words have it.
func (m *model) apply(root []byte, e api.Entry) api.Reply {
	if e.Pos != m.pos+1 || e.Pos > clock || e.Stamp < 0 || e.Stamp > clock || e.Client < 0 || e.Client > 3 || e.ID < 1 || e.ID > clock {
		return api.Reply{Err: 2}
	}
	m.pos = e.Pos
	x := &m.lasts[e.Client]
	switch {
	case x.id > e.ID:
		return api.Reply{Err: 140}
	case x.id == e.ID:
		return x.reply
	}
	x.id, x.reply = e.ID, m.do(root, e.Stamp, e.Body)
	return x.reply
}
