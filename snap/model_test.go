package snap

import (
	"bytes"
	"encoding/binary"
	"fmt"
	"testing"

	"seneschal/api"
	"seneschal/quota"
	"seneschal/replies"
	"seneschal/space"
	"seneschal/state"
)

// clock is api.MaxClock, written out.
const clock = 1 << 40

// errSnap is the chapter's number.
const errSnap = 170

// spelt tells the bytes of what the chapter's words put behind one another: of an int its 8 bytes, of a string the number of its bytes and these, of a tag its 32 bytes.
func spelt(l ...any) []byte {
	var b []byte
	for _, x := range l {
		switch x := x.(type) {
		case int:
			b = binary.BigEndian.AppendUint64(b, uint64(x))
		case string:
			b = append(binary.BigEndian.AppendUint64(b, uint64(len(x))), x...)
		case api.Tag:
			b = append(b, x[:]...)
		default:
			panic(fmt.Sprintf("%T", x))
		}
	}
	return b
}

// linkItems, tenantItems, lastItems and items tell what the chapter's words put behind one another of a link, a tenant, a last and a state, whether it may be or not.
func linkItems(x api.Link) []any {
	return []any{x.N, x.Stamp, int(x.Op), x.Tenant, x.A, x.B, x.C, x.Ahead, x.Self}
}

func tenantItems(t state.Tenant) []any {
	l := []any{t.Number, t.Serials, t.Space.Keys, t.Space.Bytes, len(t.Space.Pairs)}
	for _, p := range t.Space.Pairs {
		l = append(l, p.Key, p.Value)
	}
	l = append(l, len(t.Revoked))
	for _, n := range t.Revoked {
		l = append(l, n)
	}
	return l
}

func lastItems(x replies.Last) []any {
	l := []any{x.Client, x.ID, int(x.Reply.Err), x.Reply.Value, len(x.Reply.Keys)}
	for _, k := range x.Reply.Keys {
		l = append(l, k)
	}
	return append(append(l, x.Reply.N), linkItems(x.Reply.Link)...)
}

func items(s state.State) []any {
	l := []any{s.Pos, len(s.Shares)}
	for _, x := range s.Shares {
		l = append(l, x.Tenant, x.Keys, x.Space)
	}
	l = append(l, len(s.Tenants))
	for _, t := range s.Tenants {
		l = append(l, tenantItems(t)...)
	}
	l = append(l, len(s.Links))
	for _, x := range s.Links {
		l = append(l, linkItems(x)...)
	}
	l = append(l, len(s.Lasts))
	for _, x := range s.Lasts {
		l = append(l, lastItems(x)...)
	}
	return l
}

// laid tells a state's bytes, whether it may be or not.
func laid(s state.State) []byte { return spelt(items(s)...) }

// scan reads bytes by places: once something isn't there, it is bad, and all else is zero.
type scan struct {
	all []byte
	at  int
	bad bool
}

// left tells whether so many bytes are left.
func (c *scan) left(n int) bool {
	c.bad = c.bad || n < 0 || n > len(c.all)-c.at
	return !c.bad
}

func (c *scan) number() int {
	if !c.left(8) {
		return 0
	}
	c.at += 8
	return int(binary.BigEndian.Uint64(c.all[c.at-8:]))
}

func (c *scan) text() string {
	n := c.number()
	if !c.left(n) {
		return ""
	}
	c.at += n
	return string(c.all[c.at-n : c.at])
}

func (c *scan) tag() (t api.Tag) {
	if c.left(32) {
		c.at += copy(t[:], c.all[c.at:])
	}
	return t
}

// count tells how many there are of a list, each of which has 8 bytes at least.
func (c *scan) count() int {
	n := c.number()
	c.bad = c.bad || n < 0 || n > (len(c.all)-c.at)/8
	if c.bad {
		return 0
	}
	return n
}

func (c *scan) link() (x api.Link) {
	x.N = c.number()
	x.Stamp = c.number()
	op := c.number()
	c.bad = c.bad || op < 0 || op > 255
	x.Op = uint8(op)
	x.Tenant = c.number()
	x.A = c.number()
	x.B = c.number()
	x.C = c.number()
	x.Ahead = c.tag()
	x.Self = c.tag()
	return x
}

func (c *scan) tenant() (t state.Tenant) {
	t.Number = c.number()
	t.Serials = c.number()
	t.Space.Keys = c.number()
	t.Space.Bytes = c.number()
	for range c.count() {
		key := c.text()
		t.Space.Pairs = append(t.Space.Pairs, space.Pair{Key: key, Value: c.text()})
	}
	for range c.count() {
		t.Revoked = append(t.Revoked, c.number())
	}
	return t
}

func (c *scan) last() (x replies.Last) {
	x.Client = c.number()
	x.ID = c.number()
	x.Reply.Err = api.Errno(c.number())
	x.Reply.Value = c.text()
	for range c.count() {
		x.Reply.Keys = append(x.Reply.Keys, c.text())
	}
	x.Reply.N = c.number()
	x.Reply.Link = c.link()
	return x
}

// modelOf tells the state that may be whose bytes these are, and true; else nothing, false.
func modelOf(b []byte) (state.State, bool) {
	c := &scan{all: b}
	s := state.State{Pos: c.number()}
	for range c.count() {
		x := quota.Share{Tenant: c.number()}
		x.Keys = c.number()
		x.Space = c.number()
		s.Shares = append(s.Shares, x)
	}
	for range c.count() {
		s.Tenants = append(s.Tenants, c.tenant())
	}
	for range c.count() {
		s.Links = append(s.Links, c.link())
	}
	for range c.count() {
		s.Lasts = append(s.Lasts, c.last())
	}
	if c.bad || c.at != len(b) || !state.May(s) {
		return state.State{}, false
	}
	return s, true
}

// replyText tells all that a reply has, as a text: of keys that are nil the same as of none.
func replyText(r api.Reply) string {
	return fmt.Sprintf("error %d value %q keys %q n %d link %d", r.Err, r.Value, r.Keys, r.N, r.Link)
}

// text tells all that a state has, as a text.
func text(s state.State) string {
	b := fmt.Appendf(nil, "pos %d shares %d\n", s.Pos, s.Shares)
	for _, t := range s.Tenants {
		b = fmt.Appendf(b, "tenant %d serials %d limits %d %d pairs %q revoked %d\n", t.Number, t.Serials, t.Space.Keys, t.Space.Bytes, t.Space.Pairs, t.Revoked)
	}
	for _, x := range s.Links {
		b = fmt.Appendf(b, "link %d\n", x)
	}
	for _, x := range s.Lasts {
		b = fmt.Appendf(b, "last %d %d %s\n", x.Client, x.ID, replyText(x.Reply))
	}
	return string(b)
}

// deep tells a state that shares nothing with that one, and has lists without items instead of nil ones.
func deep(s state.State) state.State {
	d := state.State{Pos: s.Pos, Shares: append([]quota.Share{}, s.Shares...), Tenants: []state.Tenant{}, Links: append([]api.Link{}, s.Links...), Lasts: []replies.Last{}}
	for _, t := range s.Tenants {
		t.Space.Pairs = append([]space.Pair{}, t.Space.Pairs...)
		t.Revoked = append([]int{}, t.Revoked...)
		d.Tenants = append(d.Tenants, t)
	}
	for _, x := range s.Lasts {
		x.Reply.Keys = append([]string{}, x.Reply.Keys...)
		d.Lasts = append(d.Lasts, x)
	}
	return d
}

// holdsRestore holds what Restore tells of bytes against the model; and tells whether they are a state's.
func holdsRestore(t *testing.T, b []byte) bool {
	t.Helper()
	want, is := modelOf(b)
	s, e := Restore(b)
	if is && e != 0 || !is && e != errSnap {
		t.Fatalf("Restore of %x tells the error %d, not %v of\n%s", b, e, is, text(want))
	}
	if text(s) != text(want) {
		t.Fatalf("Restore of %x tells\n%snot\n%s", b, text(s), text(want))
	}
	if again := Print(s); is && !bytes.Equal(again, b) || !is && len(again) > 0 {
		t.Fatalf("%x is restored, and printed as %x", b, again)
	}
	return is
}

// numbers tells the bytes of numbers.
func numbers(l ...int) []byte {
	var b []byte
	for _, n := range l {
		b = append(b, spelt(n)...)
	}
	return b
}
