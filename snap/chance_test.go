package snap

import (
	"math"
	"math/rand"
	"slices"
	"strings"

	"seneschal/api"
	"seneschal/quota"
	"seneschal/replies"
	"seneschal/space"
	"seneschal/state"
)

// ends tells numbers at the edges of limits, and at the ends of what an int holds.
func ends() []int {
	return []int{math.MinInt, math.MinInt + 1, -clock, math.MinInt32, -256, -8, -1, 0, 1, 2, 3, 4, 5, 7, 8, 9, 24, 25, 32, 33, 64, 65, 127, 128, 255, 256, 257, 512, 4096, 4097, 1 << 16, math.MaxInt32, 1 << 32, 1<<32 + 1, 1<<33 + 8, clock - 1, clock, clock + 1, 1 << 61, 1<<61 + 1, math.MaxInt - 8, math.MaxInt - 7, math.MaxInt - 1, math.MaxInt}
}

// oneOf tells one of these by chance.
func oneOf[T any](c *rand.Rand, l ...T) T { return l[c.Intn(len(l))] }

// tagOf tells a tag with that byte in it, of which no two bytes are the same.
func tagOf(x byte) (t api.Tag) {
	for i := range t {
		t[i] = x + byte(7*i)
	}
	return t
}

// base tells a state that may be, with something everywhere; hardly two of its numbers are the same.
func base() state.State {
	return state.State{
		Pos:    77,
		Shares: []quota.Share{{Tenant: 1, Keys: 4, Space: 100}, {Tenant: 3, Keys: 2, Space: 50}},
		Tenants: []state.Tenant{
			{Number: 0, Serials: 11, Revoked: []int{12}},
			{Number: 1, Serials: 13, Space: space.Space{Keys: 4, Bytes: 100, Pairs: []space.Pair{{Key: "a", Value: "xyz"}, {Key: "bb", Value: ""}}}, Revoked: []int{14, 1 << 33}},
			{Number: 3, Serials: 0, Space: space.Space{Keys: 2, Bytes: 50, Pairs: []space.Pair{{Key: "\x00\xff", Value: "\x80"}}}},
		},
		Links: []api.Link{
			{N: 15, Stamp: -16, Op: 17, Tenant: 18, A: 19, B: -20, C: 21, Ahead: tagOf(1), Self: tagOf(2)},
			{N: math.MinInt, Stamp: math.MaxInt, Op: 255, Tenant: -22, A: math.MinInt, B: 23, C: math.MaxInt, Ahead: tagOf(3), Self: tagOf(4)},
		},
		Lasts: []replies.Last{
			{Client: 0, ID: 24, Reply: api.Reply{Err: 25, Value: "told", Keys: []string{"k", "", "lll"}, N: -26, Link: api.Link{N: 27, Stamp: 28, Op: 29, Tenant: 30, A: 31, B: 32, C: 33, Ahead: tagOf(5), Self: tagOf(6)}}},
			{Client: 2, ID: clock, Reply: api.Reply{Err: math.MinInt, N: math.MaxInt, Link: api.Link{Tenant: math.MinInt, Self: tagOf(7)}}},
		},
	}
}

// full tells a state that may be, with as much of all as there may be: all tenants, all keys, all bytes, all revoked serials, all clients.
func full() state.State {
	s := state.State{Pos: clock, Tenants: []state.Tenant{{Serials: clock, Revoked: upTo(32)}}}
	for number := 1; number <= 8; number++ {
		t := state.Tenant{Number: number, Serials: clock, Space: space.Space{Keys: 8, Bytes: 512}, Revoked: upTo(32)}
		for i := range 8 {
			t.Space.Pairs = append(t.Space.Pairs, space.Pair{Key: strings.Repeat("k", 23-i%2) + string('a'+byte(i)), Value: strings.Repeat("v", 40+i%2)})
		}
		slices.SortFunc(t.Space.Pairs, func(a, b space.Pair) int { return strings.Compare(a.Key, b.Key) })
		s.Tenants = append(s.Tenants, t)
		s.Shares = append(s.Shares, quota.Share{Tenant: number, Keys: 8, Space: 512})
	}
	for client := range 4 {
		s.Lasts = append(s.Lasts, replies.Last{Client: client, ID: clock, Reply: api.Reply{Err: math.MaxInt, Value: strings.Repeat("v", 70000), Keys: make([]string, 99)}})
	}
	for n := range 300 {
		s.Links = append(s.Links, api.Link{N: n, Op: uint8(n), Self: tagOf(byte(n))})
	}
	return s
}

// upTo tells the numbers from 1 to the last one.
func upTo(last int) []int {
	var l []int
	for n := range last {
		l = append(l, n+1)
	}
	return l
}

// someText tells a text of any bytes by chance, that is short most often.
func someText(c *rand.Rand, most int) string {
	b := make([]byte, c.Intn(1+c.Intn(1+most)))
	for i := range b {
		b[i] = oneOf(c, 0, 'a', 'b', 255, byte(c.Intn(256)))
	}
	return string(b)
}

// someNumber tells a number by chance.
func someNumber(c *rand.Rand) int {
	return oneOf(c, oneOf(c, ends()...), c.Intn(300), int(c.Uint64()))
}

// someLink tells any link by chance.
func someLink(c *rand.Rand) api.Link {
	x := api.Link{N: someNumber(c), Stamp: someNumber(c), Op: uint8(c.Intn(256)), Tenant: someNumber(c), A: someNumber(c), B: someNumber(c), C: someNumber(c)}
	c.Read(x.Ahead[:])
	c.Read(x.Self[:])
	return x
}

// someReply tells any reply by chance.
func someReply(c *rand.Rand) api.Reply {
	r := api.Reply{Err: api.Errno(someNumber(c)), Value: someText(c, 600), N: someNumber(c), Link: someLink(c)}
	for range c.Intn(4) * c.Intn(9) {
		r.Keys = append(r.Keys, someText(c, 30))
	}
	return r
}

// someTenant tells by chance a tenant that may be.
func someTenant(c *rand.Rand, number int) state.Tenant {
	t := state.Tenant{Number: number, Serials: oneOf(c, 0, 1, 5, clock-1, clock)}
	if number == 0 {
		t.Serials = max(t.Serials, 1)
	} else {
		t.Space.Keys, t.Space.Bytes = c.Intn(9), c.Intn(513)
	}
	pairs := map[string]string{}
	for range c.Intn(10) {
		if key, value := someText(c, 24), someText(c, 64); key != "" {
			pairs[key] = value
		}
	}
	left := t.Space.Bytes
	for key, value := range pairs {
		left -= len(key) + len(value)
		if left >= 0 && len(t.Space.Pairs) < t.Space.Keys {
			t.Space.Pairs = append(t.Space.Pairs, space.Pair{Key: key, Value: value})
		}
	}
	slices.SortFunc(t.Space.Pairs, func(a, b space.Pair) int { return strings.Compare(a.Key, b.Key) })
	for range c.Intn(3) * c.Intn(17) {
		t.Revoked = append(t.Revoked, oneOf(c, 1+c.Intn(60), 1+c.Intn(clock), clock))
	}
	slices.Sort(t.Revoked)
	t.Revoked = slices.Compact(t.Revoked)
	return t
}

// someState tells by chance a state that may be.
func someState(c *rand.Rand) state.State {
	s := state.State{Pos: oneOf(c, 0, 1, 7, clock-1, clock)}
	for number := range 9 {
		if number > 0 && c.Intn(2) == 0 {
			continue
		}
		t := someTenant(c, number)
		s.Tenants = append(s.Tenants, t)
		if number > 0 {
			s.Shares = append(s.Shares, quota.Share{Tenant: number, Keys: t.Space.Keys, Space: t.Space.Bytes})
		}
	}
	for range c.Intn(3) * c.Intn(6) {
		s.Links = append(s.Links, someLink(c))
	}
	for client := range 4 {
		if c.Intn(2) == 0 {
			s.Lasts = append(s.Lasts, replies.Last{Client: client, ID: oneOf(c, 1, 3, clock), Reply: someReply(c)})
		}
	}
	return s
}

// other is something that may be otherwise in base: a state in which it is so is another one.
type other struct {
	name   string
	change func(s *state.State)
}

// others tells what may be otherwise.
func others() []other {
	return slices.Concat(otherNumbers(), otherLists(), otherTexts(), otherTags())
}

// otherNumbers tells each number of base as any that is at an edge.
func otherNumbers() []other {
	var l []other
	places := []func(s *state.State) *int{
		func(s *state.State) *int { return &s.Pos },
		func(s *state.State) *int { return &s.Shares[0].Tenant },
		func(s *state.State) *int { return &s.Shares[1].Keys },
		func(s *state.State) *int { return &s.Shares[1].Space },
		func(s *state.State) *int { return &s.Tenants[0].Number },
		func(s *state.State) *int { return &s.Tenants[0].Serials },
		func(s *state.State) *int { return &s.Tenants[1].Serials },
		func(s *state.State) *int { return &s.Tenants[2].Serials },
		func(s *state.State) *int { return &s.Tenants[2].Number },
		func(s *state.State) *int { return &s.Tenants[1].Space.Keys },
		func(s *state.State) *int { return &s.Tenants[1].Space.Bytes },
		func(s *state.State) *int { return &s.Tenants[0].Revoked[0] },
		func(s *state.State) *int { return &s.Tenants[1].Revoked[0] },
		func(s *state.State) *int { return &s.Tenants[1].Revoked[1] },
		func(s *state.State) *int { return &s.Lasts[0].Client },
		func(s *state.State) *int { return &s.Lasts[0].ID },
		func(s *state.State) *int { return &s.Lasts[1].Client },
		func(s *state.State) *int { return &s.Lasts[1].ID },
		func(s *state.State) *int { return &s.Lasts[0].Reply.N },
		func(s *state.State) *int { return &s.Lasts[1].Reply.N },
	}
	for _, link := range []func(s *state.State) *api.Link{
		func(s *state.State) *api.Link { return &s.Links[0] },
		func(s *state.State) *api.Link { return &s.Links[1] },
		func(s *state.State) *api.Link { return &s.Lasts[0].Reply.Link },
		func(s *state.State) *api.Link { return &s.Lasts[1].Reply.Link },
	} {
		places = append(places,
			func(s *state.State) *int { return &link(s).N },
			func(s *state.State) *int { return &link(s).Stamp },
			func(s *state.State) *int { return &link(s).Tenant },
			func(s *state.State) *int { return &link(s).A },
			func(s *state.State) *int { return &link(s).B },
			func(s *state.State) *int { return &link(s).C },
		)
		for op := range 256 {
			l = append(l, other{"an Op", func(s *state.State) { link(s).Op = uint8(op) }})
		}
	}
	for _, n := range ends() {
		for _, place := range places {
			l = append(l, other{"a number", func(s *state.State) { *place(s) = n }})
		}
		l = append(l,
			other{"an Err", func(s *state.State) { s.Lasts[0].Reply.Err = api.Errno(n) }},
			other{"both Keys", func(s *state.State) { s.Shares[0].Keys, s.Tenants[1].Space.Keys = n, n }},
			other{"both Bytes", func(s *state.State) { s.Shares[1].Space, s.Tenants[2].Space.Bytes = n, n }},
			other{"both numbers", func(s *state.State) { s.Shares[1].Tenant, s.Tenants[2].Number = n, n }},
		)
	}
	return l
}

// otherLists tells each list of base with more, with less, with the same turned about.
func otherLists() []other {
	return []other{
		{"nothing at all", func(s *state.State) { *s = state.State{} }},
		{"the first one", func(s *state.State) { *s = state.New() }},
		{"the full one", func(s *state.State) { *s = full() }},
		{"no shares", func(s *state.State) { s.Shares = nil }},
		{"a share less", func(s *state.State) { s.Shares = s.Shares[:1] }},
		{"a share more", func(s *state.State) { s.Shares = append(s.Shares, quota.Share{Tenant: 8}) }},
		{"shares turned about", func(s *state.State) { slices.Reverse(s.Shares) }},
		{"no tenants", func(s *state.State) { s.Tenants = nil }},
		{"the admin alone", func(s *state.State) { s.Tenants, s.Shares = s.Tenants[:1], nil }},
		{"a tenant less", func(s *state.State) { s.Tenants, s.Shares = s.Tenants[:2], s.Shares[:1] }},
		{"a tenant more", func(s *state.State) {
			s.Tenants, s.Shares = append(s.Tenants, state.Tenant{Number: 8}), append(s.Shares, quota.Share{Tenant: 8})
		}},
		{"tenants turned about", func(s *state.State) { slices.Reverse(s.Tenants) }},
		{"no pairs", func(s *state.State) { s.Tenants[1].Space.Pairs = nil }},
		{"a pair less", func(s *state.State) { s.Tenants[1].Space.Pairs = s.Tenants[1].Space.Pairs[1:] }},
		{"a pair more", func(s *state.State) {
			s.Tenants[1].Space.Pairs = append(s.Tenants[1].Space.Pairs, space.Pair{Key: "c"})
		}},
		{"pairs turned about", func(s *state.State) { slices.Reverse(s.Tenants[1].Space.Pairs) }},
		{"a pair of the admin", func(s *state.State) { s.Tenants[0].Space.Pairs = []space.Pair{{Key: "a"}} }},
		{"nothing revoked", func(s *state.State) { s.Tenants[1].Revoked = nil }},
		{"a serial less", func(s *state.State) { s.Tenants[1].Revoked = s.Tenants[1].Revoked[1:] }},
		{"a serial more", func(s *state.State) { s.Tenants[2].Revoked = []int{1} }},
		{"all serials", func(s *state.State) { s.Tenants[2].Revoked = upTo(32) }},
		{"a serial too much", func(s *state.State) { s.Tenants[2].Revoked = upTo(33) }},
		{"serials turned about", func(s *state.State) { slices.Reverse(s.Tenants[1].Revoked) }},
		{"no links", func(s *state.State) { s.Links = nil }},
		{"a link less", func(s *state.State) { s.Links = s.Links[:1] }},
		{"a link more", func(s *state.State) { s.Links = append(s.Links, api.Link{}) }},
		{"links turned about", func(s *state.State) { slices.Reverse(s.Links) }},
		{"no lasts", func(s *state.State) { s.Lasts = nil }},
		{"a last less", func(s *state.State) { s.Lasts = s.Lasts[1:] }},
		{"a last more", func(s *state.State) { s.Lasts = append(s.Lasts, replies.Last{Client: 3, ID: 1}) }},
		{"lasts turned about", func(s *state.State) { slices.Reverse(s.Lasts) }},
		{"no keys told", func(s *state.State) { s.Lasts[0].Reply.Keys = nil }},
		{"a key less told", func(s *state.State) { s.Lasts[0].Reply.Keys = s.Lasts[0].Reply.Keys[:2] }},
		{"a key more told", func(s *state.State) { s.Lasts[0].Reply.Keys = append(s.Lasts[0].Reply.Keys, "") }},
		{"keys told turned about", func(s *state.State) { slices.Reverse(s.Lasts[0].Reply.Keys) }},
		{"keys of the last one", func(s *state.State) { s.Lasts[1].Reply.Keys = []string{"k"} }},
		{"many keys", func(s *state.State) { s.Lasts[1].Reply.Keys = make([]string, 1000) }},
	}
}

// otherTexts tells each text of base with more, with less, with what was its neighbour's.
func otherTexts() []other {
	var l []other
	for _, x := range []string{"", "\x00", "b", "c", "xyz", "told", "\xff\xff\xff\xff\xff\xff\xff\xff", "\x00\x00\x00\x00\x00\x00\x00\x01", strings.Repeat("x", 24), strings.Repeat("x", 25), strings.Repeat("y", 64), strings.Repeat("z", 65), strings.Repeat("n", 255), strings.Repeat("n", 256), strings.Repeat("n", 70000)} {
		l = append(l,
			other{"a key", func(s *state.State) { s.Tenants[1].Space.Pairs[0].Key = x }},
			other{"the last key", func(s *state.State) { s.Tenants[1].Space.Pairs[1].Key = x }},
			other{"a value", func(s *state.State) { s.Tenants[1].Space.Pairs[0].Value = x }},
			other{"the last value", func(s *state.State) { s.Tenants[2].Space.Pairs[0].Value = x }},
			other{"what was told", func(s *state.State) { s.Lasts[0].Reply.Value = x }},
			other{"what the last one was told", func(s *state.State) { s.Lasts[1].Reply.Value = x }},
			other{"a key told", func(s *state.State) { s.Lasts[0].Reply.Keys[0] = x }},
			other{"the last key told", func(s *state.State) { s.Lasts[0].Reply.Keys[2] = x }},
		)
	}
	return append(l,
		other{"a byte of the key at the value", func(s *state.State) { s.Tenants[1].Space.Pairs[1] = space.Pair{Key: "b", Value: "b"} }},
		other{"a byte of what was told at the key", func(s *state.State) {
			s.Lasts[0].Reply.Value, s.Lasts[0].Reply.Keys = "tol", []string{"dk", "", "lll"}
		}},
		other{"keys told as one", func(s *state.State) { s.Lasts[0].Reply.Keys = []string{"klll"} }},
		other{"a byte of a key at the next one", func(s *state.State) { s.Lasts[0].Reply.Keys = []string{"", "k", "lll"} }},
	)
}

// otherTags tells each byte of base's tags otherwise.
func otherTags() []other {
	var l []other
	for at := range 32 {
		l = append(l,
			other{"Ahead", func(s *state.State) { s.Links[0].Ahead[at]++ }},
			other{"Self", func(s *state.State) { s.Links[0].Self[at]++ }},
			other{"the last Self", func(s *state.State) { s.Links[1].Self[at]++ }},
			other{"Ahead of what was told", func(s *state.State) { s.Lasts[0].Reply.Link.Ahead[at]++ }},
			other{"Self of what was told", func(s *state.State) { s.Lasts[0].Reply.Link.Self[at]++ }},
		)
	}
	return append(l, other{"tags turned about", func(s *state.State) { s.Links[0].Ahead, s.Links[0].Self = s.Links[0].Self, s.Links[0].Ahead }})
}
