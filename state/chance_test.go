package state

import (
	"bytes"
	"math"
	"math/rand"
	"slices"
	"strings"

	"seneschal/api"
	"seneschal/quota"
	"seneschal/replies"
	"seneschal/space"
)

// ends tells numbers at the edges of limits, and at the ends of what an int holds.
func ends() []int {
	return []int{math.MinInt, math.MinInt + 1, -clock, math.MinInt32, -2, -1, 0, 1, 2, 3, 4, 8, 9, keys, keys + 1, room, room + 1, 1<<32 + 1, clock - 1, clock, clock + 1, math.MaxInt - 1, math.MaxInt}
}

// oneOf tells one of these numbers by chance.
func oneOf(c *rand.Rand, l ...int) int { return l[c.Intn(len(l))] }

// letter tells a key by chance, of few different ones.
func letter(c *rand.Rand) string { return string([]byte{'a' + byte(c.Intn(4))}) }

// whatever tells a reply by chance, of few different ones, with room behind its keys at times.
func whatever(c *rand.Rand) api.Reply {
	return api.Reply{Err: api.Errno(c.Intn(2)), Value: letter(c), Keys: slices.Grow(slices.Repeat([]string{letter(c)}, c.Intn(3)), c.Intn(3)), N: c.Intn(3), Link: api.Link{N: c.Intn(2)}}
}

// someState tells by chance a state that may be.
func someState(c *rand.Rand) State {
	m := model{pos: oneOf(c, 0, 1, 7, clock-1, clock)}
	for number := range tenants + 1 {
		w := &m.wards[number]
		*w = ward{there: true, serials: oneOf(c, 0, 1, 5, clock-1, clock), keys: c.Intn(9), bytes: c.Intn(30), pairs: map[string]string{}, revoked: map[int]bool{}}
		if number == 0 {
			w.serials, w.keys, w.bytes = max(w.serials, 1), 0, 0
		} else if c.Intn(2) == 0 {
			*w = ward{}
			continue
		}
		for range c.Intn(6) {
			k := letter(c)
			if w.pairs[k] = strings.Repeat("v", c.Intn(3)); !w.fits() {
				delete(w.pairs, k)
			}
		}
		for i := range oneOf(c, 0, 0, 1, 2, serials) {
			w.revoked[oneOf(c, 6, clock-40)+i] = true
		}
		for n := 6; len(w.revoked) > 2 && len(w.revoked) < serials; n++ {
			w.revoked[n] = true
		}
	}
	for range c.Intn(4) {
		m.links = append(m.links, api.Link{N: c.Intn(5), Op: uint8(c.Intn(12)), A: c.Intn(9), Self: api.Tag{byte(c.Intn(256))}})
	}
	for client := range clients {
		m.lasts[client].id, m.lasts[client].reply = oneOf(c, 0, 1, 3, clock), whatever(c)
	}
	return m.laid()
}

// someToken tells a token by chance, at times one that is none.
func someToken(c *rand.Rand) api.Token {
	tenant := c.Intn(tenants+1) * c.Intn(3) / 2
	var line []api.Grant
	for range oneOf(c, 1, 1, 2, 4) {
		g := api.Grant{Rights: 15, Expiry: clock, Serial: 1 + c.Intn(6)}
		switch c.Intn(9) {
		case 0:
			g.Rights = uint8(c.Intn(16))
		case 1:
			g.Expiry = c.Intn(60)
		}
		line = append(line, g)
	}
	t := minted(root, tenant, line...)
	switch c.Intn(40) {
	case 0:
		t.Tag[c.Intn(32)] ^= 1 << c.Intn(8)
	case 1:
		t.Tenant = c.Intn(11) - 1
	case 2:
		t = minted(root[1:], tenant, line...)
	case 3:
		t.Line = line[1:]
	}
	return t
}

// someRequest tells a request by chance, of small numbers, most of them ones that may be.
func someRequest(c *rand.Rand) api.Request {
	q := api.Request{Op: uint8(1 + c.Intn(10)), Key: letter(c)}
	switch q.Op {
	case 2:
		q.Value = strings.Repeat("v", oneOf(c, 0, 1, 2, 30))
	case 3:
		q.Value, q.Old = strings.Repeat("v", oneOf(c, 0, 1, 30, 64)), strings.Repeat("v", c.Intn(2))
	case 5:
		q.N = 1 + c.Intn(4)
	}
	if q.Op <= 5 {
		return q
	}
	q.Key = ""
	if q.Op != 10 {
		q.Tenant = 1 + c.Intn(tenants)
	}
	switch q.Op {
	case 6, 7:
		q.Keys, q.Space = oneOf(c, 0, 5, 8, 20, 64, 65), oneOf(c, 0, 20, 100, 3000, 4096, 4097)
	case 8:
		q.Tenant = c.Intn(3) * q.Tenant / 2
		q.Grant = api.Grant{Rights: uint8(1 + c.Intn(8)*c.Intn(3)/2), Expiry: oneOf(c, 0, 30, clock)}
	case 9:
		q.Tenant = c.Intn(3) * q.Tenant / 2
		q.N = oneOf(c, 0, 1, 2, 6, 7, 99, 65536)
	case 10:
		q.N = c.Intn(5)
	}
	return q
}

// someBody tells a request's bytes by chance, at times others: most often of a token that the state has a tenant for.
func someBody(c *rand.Rand, s State) []byte {
	q, t := someRequest(c), someToken(c)
	if c.Intn(4) > 0 && (q.Op > 5) != (t.Tenant == 0) { // so that more are asked for by whoever may
		t.Tenant = 0
		if q.Op <= 5 && len(s.Shares) > 0 {
			t.Tenant = s.Shares[c.Intn(len(s.Shares))].Tenant
		}
		t = minted(root, t.Tenant, t.Line...)
	}
	b := form(t, q)
	switch c.Intn(40) {
	case 0:
		b[c.Intn(len(b))]++
	case 1:
		b = b[:c.Intn(len(b))]
	case 2:
		b = append(b, make([]byte, c.Intn(2000))...)
	}
	return b
}

// someEntry tells an entry by chance, most often one behind those that the state has.
func someEntry(c *rand.Rand, s State) api.Entry {
	e := api.Entry{Pos: s.Pos + 1, Stamp: oneOf(c, 0, 10, 40, 60, clock-1, clock), Client: c.Intn(clients), ID: 1 + c.Intn(4), Body: someBody(c, s)}
	n := ends()[c.Intn(len(ends()))]
	switch c.Intn(24) {
	case 0:
		e.Pos = n
	case 1:
		e.Stamp = n
	case 2:
		e.Client = n
	case 3:
		e.ID = n
	case 4:
		e.Pos = s.Pos
	case 5:
		e.Pos = s.Pos + 2
	}
	return e
}

// perhaps tells a state by chance, often one that may not be, as something of it is otherwise.
func perhaps(c *rand.Rand) State {
	s := someState(c)
	if c.Intn(2) == 0 {
		s = base()
	}
	l := others()
	for range c.Intn(3) {
		x := l[c.Intn(len(l))]
		if x.fits(s) {
			x.change(&s)
		}
	}
	return s
}

// other is something that may be otherwise in a state; not each state has what it takes.
type other struct {
	name   string
	may    bool // whether base may be, with that
	change func(s *State)
}

// fits tells whether a state has enough to be changed.
func (x other) fits(s State) bool {
	return len(s.Shares) > 1 && len(s.Tenants) > 2 && len(s.Tenants[1].Space.Pairs) > 1 && len(s.Tenants[1].Revoked) > 1 && len(s.Links) > 1 && len(s.Lasts) > 1 && len(s.Lasts[1].Reply.Keys) > 1
}

// base tells a state that may be, with something everywhere.
func base() State {
	return State{
		Pos:    3,
		Shares: []quota.Share{{Tenant: 1, Keys: 4, Space: 100}, {Tenant: 3, Keys: 2, Space: 50}},
		Tenants: []Tenant{
			{Number: 0, Serials: 2, Revoked: []int{2}},
			{Number: 1, Serials: 1, Space: space.Space{Keys: 4, Bytes: 100, Pairs: []space.Pair{{Key: "a", Value: "1"}, {Key: "b", Value: "22"}}}, Revoked: []int{3, 5}},
			{Number: 3, Space: space.Space{Keys: 2, Bytes: 50, Pairs: []space.Pair{{Key: "a", Value: "3"}}}},
		},
		Links: []api.Link{{N: 1, Stamp: 9, Op: 6, Tenant: 1, A: 4, B: 100, Self: api.Tag{1}}, {N: 2, Op: 8, Tenant: 1, A: 7, B: 50, C: 1, Ahead: api.Tag{1}, Self: api.Tag{2}}},
		Lasts: []replies.Last{{Client: 0, ID: 2, Reply: api.Reply{Value: "v", N: 4}}, {Client: 2, ID: 1, Reply: api.Reply{Keys: []string{"k", "l"}}}},
	}
}

// wide tells a state of all tenants, with all that there is.
func wide() State {
	s := State{Tenants: []Tenant{{Serials: 1}}}
	for number := 1; number <= tenants; number++ {
		s.Shares = append(s.Shares, quota.Share{Tenant: number, Keys: 8, Space: 512})
		s.Tenants = append(s.Tenants, Tenant{Number: number, Space: space.Space{Keys: 8, Bytes: 512}})
	}
	return s
}

// upTo tells the numbers from one to another.
func upTo(first, last int) []int {
	var l []int
	for n := first; n <= last; n++ {
		l = append(l, n)
	}
	return l
}

// others tells what may be otherwise.
func others() []other {
	return slices.Concat(otherNumbers(), otherShares(), otherTenants(), otherSpaces(), otherSets(), otherRest())
}

func otherNumbers() []other {
	var l []other
	for _, n := range ends() {
		l = append(l,
			other{"Pos", n >= 0 && n <= clock, func(s *State) { s.Pos = n }},
			other{"the admin's Serials", n >= 1 && n <= clock, func(s *State) { s.Tenants[0].Serials = n }},
			other{"Serials", n >= 0 && n <= clock, func(s *State) { s.Tenants[1].Serials = n }},
			other{"the last one's Serials", n >= 0 && n <= clock, func(s *State) { s.Tenants[2].Serials = n }},
			other{"the admin's Number", n == 0, func(s *State) { s.Tenants[0].Number = n }},
			other{"Number", n == 1, func(s *State) { s.Tenants[1].Number = n }},
			other{"the last one's Number", n == 3, func(s *State) { s.Tenants[2].Number = n }},
			other{"the share's Tenant", n == 1, func(s *State) { s.Shares[0].Tenant = n }},
			other{"the last share's Tenant", n == 3, func(s *State) { s.Shares[1].Tenant = n }},
			other{"the last one's Number, and the share's", n > 1 && n < 9, func(s *State) { s.Tenants[2].Number, s.Shares[1].Tenant = n, n }},
			other{"the first one's Number, and the share's", n > 0 && n < 3, func(s *State) { s.Tenants[1].Number, s.Shares[0].Tenant = n, n }},
			other{"a share's Keys", n == 4, func(s *State) { s.Shares[0].Keys = n }},
			other{"a share's Space", false, func(s *State) { s.Shares[0].Space = n }},
			other{"a space's Keys", n == 4, func(s *State) { s.Tenants[1].Space.Keys = n }},
			other{"a space's Bytes", false, func(s *State) { s.Tenants[1].Space.Bytes = n }},
			other{"the admin's Keys", n == 0, func(s *State) { s.Tenants[0].Space.Keys = n }},
			other{"the admin's Bytes", n == 0, func(s *State) { s.Tenants[0].Space.Bytes = n }},
			other{"Keys of both", n >= 2 && n <= 62, func(s *State) { s.Tenants[1].Space.Keys, s.Shares[0].Keys = n, n }},
			other{"Bytes of both", n >= 5 && n <= 4046, func(s *State) { s.Tenants[1].Space.Bytes, s.Shares[0].Space = n, n }},
			other{"the first serial", n >= 1 && n < 5, func(s *State) { s.Tenants[1].Revoked[0] = n }},
			other{"the last serial", n > 3 && n <= clock, func(s *State) { s.Tenants[1].Revoked[1] = n }},
			other{"one serial", n >= 1 && n <= clock, func(s *State) { s.Tenants[2].Revoked = []int{n} }},
			other{"the admin's serial", n >= 1 && n <= clock, func(s *State) { s.Tenants[0].Revoked = []int{n} }},
			other{"a client", n == 0 || n == 1, func(s *State) { s.Lasts[0].Client = n }},
			other{"the last client", n > 0 && n < 4, func(s *State) { s.Lasts[1].Client = n }},
			other{"an ID", n >= 1 && n <= clock, func(s *State) { s.Lasts[0].ID = n }},
			other{"a link's N", true, func(s *State) { s.Links[0].N = n }},
			other{"a link's Stamp", true, func(s *State) { s.Links[1].Stamp = n }},
			other{"a reply's N", true, func(s *State) { s.Lasts[1].Reply.N = n }},
		)
	}
	return l
}

func otherShares() []other {
	return []other{
		{"no shares", false, func(s *State) { s.Shares = nil }},
		{"a share less", false, func(s *State) { s.Shares = s.Shares[:1] }},
		{"the other share less", false, func(s *State) { s.Shares = s.Shares[1:] }},
		{"a share more", false, func(s *State) { s.Shares = append(s.Shares, quota.Share{Tenant: 8}) }},
		{"a share more ahead", false, func(s *State) { s.Shares = slices.Insert(s.Shares, 1, quota.Share{Tenant: 2}) }},
		{"a share of the admin", false, func(s *State) { s.Shares = slices.Insert(s.Shares, 0, quota.Share{}) }},
		{"shares turned about", false, func(s *State) { slices.Reverse(s.Shares) }},
		{"shares turned about, tenants, too", false, func(s *State) { slices.Reverse(s.Shares); slices.Reverse(s.Tenants[1:]) }},
		{"a share twice", false, func(s *State) { s.Shares = append(s.Shares, s.Shares[1]) }},
		{"a share twice, its tenant, too", false, func(s *State) { s.Shares, s.Tenants = append(s.Shares, s.Shares[1]), append(s.Tenants, s.Tenants[2]) }},
		{"neither shares nor tenants", true, func(s *State) { s.Shares, s.Tenants = nil, s.Tenants[:1] }},
		{"all tenants", true, func(s *State) { w := wide(); s.Shares, s.Tenants = w.Shares, w.Tenants }},
		{"all tenants, a key too much", false, func(s *State) {
			w := wide()
			w.Shares[7].Keys, w.Tenants[8].Space.Keys = 9, 9
			s.Shares, s.Tenants = w.Shares, w.Tenants
		}},
		{"all tenants, a byte too much", false, func(s *State) {
			w := wide()
			w.Shares[0].Space, w.Tenants[1].Space.Bytes = 513, 513
			s.Shares, s.Tenants = w.Shares, w.Tenants
		}},
		{"all tenants but one", true, func(s *State) { w := wide(); s.Shares, s.Tenants = w.Shares[:7], w.Tenants[:8] }},
		{"a tenant 9", false, func(s *State) {
			s.Shares, s.Tenants = append(s.Shares, quota.Share{Tenant: 9}), append(s.Tenants, Tenant{Number: 9})
		}},
		{"a tenant 8", true, func(s *State) {
			s.Shares, s.Tenants = append(s.Shares, quota.Share{Tenant: 8}), append(s.Tenants, Tenant{Number: 8})
		}},
	}
}

func otherTenants() []other {
	return []other{
		{"nobody", false, func(s *State) { s.Tenants = nil }},
		{"nobody, no shares", false, func(s *State) { s.Tenants, s.Shares = nil, nil }},
		{"no admin", false, func(s *State) { s.Tenants = s.Tenants[1:] }},
		{"the admin twice", false, func(s *State) { s.Tenants = slices.Insert(s.Tenants, 0, s.Tenants[0]) }},
		{"the admin at the end", false, func(s *State) { s.Tenants = append(s.Tenants[1:len(s.Tenants):len(s.Tenants)], s.Tenants[0]) }},
		{"a tenant less", false, func(s *State) { s.Tenants = slices.Delete(slices.Clone(s.Tenants), 1, 2) }},
		{"the last tenant less", false, func(s *State) { s.Tenants = s.Tenants[:2] }},
		{"a tenant more", false, func(s *State) { s.Tenants = append(s.Tenants, Tenant{Number: 8}) }},
		{"a tenant more between", false, func(s *State) { s.Tenants = slices.Insert(s.Tenants, 2, Tenant{Number: 2}) }},
		{"a tenant twice", false, func(s *State) { s.Tenants = slices.Insert(s.Tenants, 2, s.Tenants[1]) }},
		{"one tenant twice, instead of the other", false, func(s *State) { s.Tenants[2] = s.Tenants[1] }},
		{"tenants turned about", false, func(s *State) { slices.Reverse(s.Tenants[1:]) }},
		{"all turned about", false, func(s *State) { slices.Reverse(s.Tenants) }},
		{"many tenants", false, func(s *State) { s.Tenants = append(s.Tenants, make([]Tenant, 99)...) }},
	}
}

func otherSpaces() []other {
	pairs := func(may bool, name string, l ...space.Pair) other {
		return other{name, may, func(s *State) { s.Tenants[2].Space.Pairs = l }}
	}
	return []other{
		pairs(true, "no pairs"),
		pairs(true, "another value", space.Pair{Key: "a", Value: "4"}),
		pairs(true, "another key", space.Pair{Key: "b", Value: "3"}),
		pairs(true, "all pairs", space.Pair{Key: "a"}, space.Pair{Key: "b"}),
		pairs(false, "a pair too much", space.Pair{Key: "a"}, space.Pair{Key: "b"}, space.Pair{Key: "c"}),
		pairs(false, "turned about", space.Pair{Key: "b"}, space.Pair{Key: "a"}),
		pairs(false, "twice", space.Pair{Key: "a"}, space.Pair{Key: "a"}),
		pairs(false, "no key", space.Pair{Value: "v"}),
		pairs(true, "all bytes", space.Pair{Key: "a", Value: strings.Repeat("v", 49)}),
		pairs(false, "a byte too much", space.Pair{Key: "a", Value: strings.Repeat("v", 50)}),
		pairs(true, "a long key", space.Pair{Key: strings.Repeat("k", 24)}),
		pairs(false, "too long a key", space.Pair{Key: strings.Repeat("k", 25)}),
		{"a long value", true, func(s *State) { s.Tenants[1].Space.Pairs[0].Value = strings.Repeat("v", 64) }},
		{"too long a value", false, func(s *State) { s.Tenants[1].Space.Pairs[0].Value = strings.Repeat("v", 65) }},
		{"a pair of the admin", false, func(s *State) { s.Tenants[0].Space.Pairs = []space.Pair{{Key: "a"}} }},
		{"an admin with a space", false, func(s *State) { s.Tenants[0].Space = s.Tenants[2].Space }},
		{"spaces turned about", false, func(s *State) { s.Tenants[1].Space, s.Tenants[2].Space = s.Tenants[2].Space, s.Tenants[1].Space }},
	}
}

func otherSets() []other {
	set := func(may bool, name string, l ...int) other {
		return other{name, may, func(s *State) { s.Tenants[1].Revoked = l }}
	}
	return []other{
		set(true, "nothing revoked"),
		set(true, "one revoked", 3),
		set(true, "all that may be revoked", upTo(1, 32)...),
		set(false, "one too much revoked", upTo(1, 33)...),
		set(false, "turned about", 5, 3),
		set(false, "twice", 3, 3),
		{"nothing of the admin revoked", true, func(s *State) { s.Tenants[0].Revoked = nil }},
		{"much of the admin revoked", false, func(s *State) { s.Tenants[0].Revoked = upTo(1, 33) }},
		{"of the last one revoked", false, func(s *State) { s.Tenants[2].Revoked = []int{3, 2} }},
	}
}

func otherRest() []other {
	return []other{
		{"no links", true, func(s *State) { s.Links = nil }},
		{"links turned about", true, func(s *State) { slices.Reverse(s.Links) }},
		{"a link more", true, func(s *State) { s.Links = append(s.Links, api.Link{}) }},
		{"another Self", true, func(s *State) { s.Links[0].Self[31]++ }},
		{"another Op", true, func(s *State) { s.Links[0].Op = 200 }},
		{"no lasts", true, func(s *State) { s.Lasts = nil }},
		{"a last less", true, func(s *State) { s.Lasts = s.Lasts[1:] }},
		{"a last more", true, func(s *State) { s.Lasts = append(s.Lasts, replies.Last{Client: 3, ID: 1}) }},
		{"a last too much", false, func(s *State) { s.Lasts = append(s.Lasts, replies.Last{Client: 4, ID: 1}) }},
		{"lasts turned about", false, func(s *State) { slices.Reverse(s.Lasts) }},
		{"a last twice", false, func(s *State) { s.Lasts = append(s.Lasts, s.Lasts[1]) }},
		{"whatever reply", true, func(s *State) {
			s.Lasts[0].Reply = api.Reply{Err: -7, Value: string(bytes.Repeat([]byte{0}, 999)), Keys: make([]string, 99)}
		}},
		{"another key told", true, func(s *State) { s.Lasts[1].Reply.Keys[1] = "m" }},
		{"a key less told", true, func(s *State) { s.Lasts[1].Reply.Keys = s.Lasts[1].Reply.Keys[:1] }},
		{"another error told", true, func(s *State) { s.Lasts[0].Reply.Err = 110 }},
	}
}
