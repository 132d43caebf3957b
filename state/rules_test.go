package state

import (
	"bytes"
	"fmt"
	"math/rand"
	"slices"
	"sync"
	"testing"

	"seneschal/api"
	"seneschal/quota"
	"seneschal/replies"
	"seneschal/space"
)

// piece is one of the lists of an answer: what is in it, as a text, and how it is written over, with the room behind it.
type piece struct {
	name  string
	text  func() string
	spoil func()
}

// over tells how a list is written over, and what is put behind it.
func over[T any](name string, l []T, x T) piece {
	return piece{name, func() string { return fmt.Sprint(l) }, func() {
		_ = append(l, x)
		whole := l[:cap(l)]
		for i := range whole {
			whole[i] = x
		}
	}}
}

// ofTenant tells a tenant's lists.
func ofTenant(t Tenant) []piece {
	return []piece{over("pairs", t.Space.Pairs, space.Pair{Key: "spoilt"}), over("revoked", t.Revoked, -7)}
}

// ofReply tells a reply's lists.
func ofReply(r api.Reply) []piece { return []piece{over("keys", r.Keys, "spoilt")} }

// ofState tells a state's lists: those of tenants and replies ahead of the lists that these stand in.
func ofState(s State) []piece {
	var l []piece
	for _, t := range s.Tenants {
		l = append(l, ofTenant(t)...)
	}
	for _, x := range s.Lasts {
		l = append(l, ofReply(x.Reply)...)
	}
	return append(l, over("shares", s.Shares, quota.Share{Tenant: -7}), over("links", s.Links, api.Link{N: -7}), over("tenants", s.Tenants, Tenant{Number: -7}), over("lasts", s.Lasts, replies.Last{Client: -7}))
}

// spoil writes over lists.
func spoil(l []piece) {
	for _, p := range l {
		p.spoil()
	}
}

// roomy tells the list with so much room behind it.
func roomy[T any](l []T, n int) []T { return slices.Grow(slices.Clip(slices.Clone(l)), n) }

// wideState tells the state with so much room behind all its lists.
func wideState(s State, n int) State {
	s = deep(s)
	s.Shares, s.Tenants, s.Links, s.Lasts = roomy(s.Shares, n), roomy(s.Tenants, n), roomy(s.Links, n), roomy(s.Lasts, n)
	for i := range s.Tenants {
		t := &s.Tenants[i]
		t.Space.Pairs, t.Revoked = roomy(t.Space.Pairs, n), roomy(t.Revoked, n)
	}
	for i := range s.Lasts {
		s.Lasts[i].Reply.Keys = roomy(s.Lasts[i].Reply.Keys, n)
	}
	return s
}

// whole tells the state with the room behind all its lists.
func whole(s State) State {
	s = State{s.Pos, s.Shares[:cap(s.Shares)], slices.Clone(s.Tenants[:cap(s.Tenants)]), s.Links[:cap(s.Links)], slices.Clone(s.Lasts[:cap(s.Lasts)])}
	for i := range s.Tenants {
		t := &s.Tenants[i]
		t.Space.Pairs, t.Revoked = t.Space.Pairs[:cap(t.Space.Pairs)], t.Revoked[:cap(t.Revoked)]
	}
	for i := range s.Lasts {
		k := &s.Lasts[i].Reply.Keys
		*k = (*k)[:cap(*k)]
	}
	return s
}

// wrong tells the state as one that may not be.
func wrong(s State) State {
	s.Tenants[2].Number = 1
	return s
}

// bodies tells requests of each Op that are done in base, or refused there, and bytes that are none.
func bodies() [][]byte {
	l := [][]byte{nil, {1, 2, 3}, make([]byte, 2000), form(own(2, 7), get("a")), form(own(1, 4), put("a", "1"))}
	for op, q := range one()[1:] {
		by := own(1, 7)
		if op >= 5 {
			by = boss()
		}
		l = append(l, form(by, q))
	}
	mine := own(1, 7)
	l = append(l, form(mine, put("c", "")), form(mine, put("b", "")), form(mine, swap("a", "9", "")), form(mine, del("c")), form(mine, list("b", 1)))
	l = append(l, form(boss(), create(1, 1, 1)), form(boss(), create(8, 1, 1)), form(boss(), resize(3, 1, 1)), form(boss(), resize(3, 9, 51)))
	l = append(l, form(boss(), grant(0, 15, 1)), form(boss(), grant(1, 8, 1)), form(boss(), revoke(0, 2)), form(boss(), revoke(1, 0)))
	return append(l, form(boss(), auditAt(9)))
}

// calls tells Do and Apply of a request to a state: a new entry, one that came, one that is behind.
func calls(body []byte) []func(s State) (State, api.Reply) {
	l := []func(s State) (State, api.Reply){func(s State) (State, api.Reply) { return Do(root, s, 10, body) }}
	for _, e := range []api.Entry{entry(4, 1, 1, body), entry(4, 2, 2, body), entry(4, 2, 1, body), entry(4, 0, 1, body), entry(5, 1, 1, body)} {
		l = append(l, func(s State) (State, api.Reply) { return Apply(root, s, e) })
	}
	return l
}

// TestP0_1NoPanic holds that each call ends and does not panic, whatever it is handed, and what it tells of nothing at all.
func TestP0_1NoPanic(t *testing.T) {
	c := rand.New(rand.NewSource(1))
	for range 2000 {
		s := perhaps(c)
		for range c.Intn(3) {
			x := perhaps(c)
			switch c.Intn(4) {
			case 0:
				s.Shares = x.Shares
			case 1:
				s.Tenants = x.Tenants
			case 2:
				s.Lasts = x.Lasts
			case 3:
				s.Pos = oneOf(c, ends()...)
			}
		}
		holdsDo(t, s, oneOf(c, ends()...), someBody(c, s))
		holdsApply(t, s, someEntry(c, s))
		Of(s, oneOf(c, ends()...))
		Same(s, perhaps(c))
		May(s)
	}
	for range 2000 {
		b := make([]byte, c.Intn(400))
		c.Read(b)
		if len(b) > 0 {
			b[0] %= 12
		}
		_, r := holdsDo(t, base(), 10, b)
		if _, told := Do(b, base(), 10, b); told.Err != 150 || r.Err != 150 {
			t.Fatalf("%x: %s", b, replyText(told))
		}
	}
	s, r := Do(nil, State{}, 0, nil)
	if text(s) != text(State{}) || r.Err != 2 {
		t.Errorf("%s, and\n%s", replyText(r), text(s))
	}
	s, r = Apply(nil, State{}, api.Entry{})
	if text(s) != text(State{}) || r.Err != 2 {
		t.Errorf("%s, and\n%s", replyText(r), text(s))
	}
	if !Same(State{}, State{}) || len(Key(nil, 0)) != 32 || Admin(nil).Tenant != 0 {
		t.Error("nothing")
	}
}

// TestP0_1Many holds the same of long lists.
func TestP0_1Many(t *testing.T) {
	const many = 1 << 16
	long := func(change func(s *State)) {
		t.Helper()
		s := base()
		change(&s)
		if May(s) || !Same(s, s) || Same(s, base()) {
			t.Error("May or Same of a long list")
		}
		next, r := Do(root, s, 10, form(own(1, 7), get("a")))
		if r.Err != 2 || !Same(next, s) {
			t.Error(replyText(r))
		}
		next, r = Apply(root, s, entry(4, 1, 1, form(own(1, 7), get("a"))))
		if r.Err != 2 || !Same(next, s) {
			t.Error(replyText(r))
		}
		Of(s, 8)
	}
	long(func(s *State) { s.Shares = make([]quota.Share, many) })
	long(func(s *State) { s.Tenants = make([]Tenant, many) })
	long(func(s *State) { s.Tenants = append(s.Tenants, make([]Tenant, many)...) })
	long(func(s *State) { s.Tenants[1].Space.Pairs = make([]space.Pair, many) })
	long(func(s *State) { s.Tenants[2].Revoked = upTo(1, many) })
	long(func(s *State) { s.Lasts = make([]replies.Last, many) })
	s := base()
	s.Links = make([]api.Link, many) // links are whatever they are
	next, r := Do(root, s, 10, form(boss(), revoke(1, 9)))
	if r.Err != 0 || len(next.Links) != many+1 || next.Links[many].N != many+1 {
		t.Error(replyText(r))
	}
}

// TestP0_2ZeroBesideError holds that beside an error, and beside false, there is nothing else but the state as it was.
func TestP0_2ZeroBesideError(t *testing.T) {
	c := rand.New(rand.NewSource(2))
	refused := 0
	for range 3000 {
		s := perhaps(c)
		next, r := Do(root, s, oneOf(c, 0, 20, 50), someBody(c, s))
		if r.Err == 0 {
			continue
		}
		refused++
		if replyText(r) != replyText(api.Reply{Err: r.Err}) || text(next) != text(s) {
			t.Fatalf("%s, and from\n%sto\n%s", replyText(r), text(s), text(next))
		}
	}
	if x, is := Of(base(), 2); is || tenantText(x) != tenantText(Tenant{}) || refused < 1000 {
		t.Error(tenantText(x), refused)
	}
}

// TestP0_3NothingStays holds that nothing is kept from call to call: behind calls that are refused, or done, the others answer as ahead of them.
func TestP0_3NothingStays(t *testing.T) {
	s := base()
	for range 2 {
		for _, body := range bodies() {
			for _, call := range calls(body) {
				call(s)
				call(State{})
			}
			May(State{})
			Of(s, 2)
			Same(s, State{})
			Key(nil, 1)
			Admin(nil)
			if text(New()) != text(State{Tenants: []Tenant{{Serials: 1}}}) || !bytes.Equal(Key(root, 1), keyOf(root, 1)) {
				t.Fatal("New or Key")
			}
			holdsDo(t, s, 10, form(own(1, 7), get("a")))
			holdsApply(t, s, entry(4, 1, 1, form(boss(), grant(1, 7, 50))))
		}
	}
}

// TestP0_4NotChanged holds that what is handed in isn't changed, nor what is in the room behind it.
func TestP0_4NotChanged(t *testing.T) {
	for _, n := range []int{0, 1, 9} {
		for _, body := range bodies() {
			for i, call := range calls(body) {
				s := wideState(base(), n)
				was, wasBody, key := text(whole(s)), bytes.Clone(body), bytes.Clone(root)
				call(s)
				if text(whole(s)) != was || !bytes.Equal(body, wasBody) || !bytes.Equal(root, key) {
					t.Fatalf("call %d of %x, room %d, changes\n%sto\n%s", i, body, n, was, text(whole(s)))
				}
				May(s)
				Of(s, 1)
				Same(s, base())
				if text(whole(s)) != was {
					t.Fatalf("room %d: from\n%sto\n%s", n, was, text(whole(s)))
				}
			}
		}
	}
	k := append(bytes.Clone(root), 5, 6, 7)
	Key(k[:32], 1)
	Admin(k[:32])
	Do(k[:32], base(), 10, form(boss(), grant(1, 7, 50)))
	if !bytes.Equal(k, append(bytes.Clone(root), 5, 6, 7)) {
		t.Errorf("%x", k)
	}
}

// TestP0_4NotShared holds that what Do and Apply tell is new memory, with the room behind it, whatever is done or refused.
func TestP0_4NotShared(t *testing.T) {
	for _, n := range []int{0, 1, 9} {
		for _, body := range bodies() {
			for i, call := range calls(body) {
				for _, s := range []State{wideState(base(), n), wrong(wideState(base(), n))} {
					was := text(whole(s))
					mine := bytes.Clone(body)
					once, r := calls(mine)[i](s)
					again, p := call(s)
					want := text(again) + replyText(p)
					spoil(append(ofState(once), ofReply(r)...))
					if text(whole(s)) != was || text(again)+replyText(p) != want {
						t.Fatalf("call %d of %x, room %d: what is told is shared", i, body, n)
					}
					once, r = calls(mine)[i](s)
					spoil(ofState(s))
					for at := range mine {
						mine[at]++
					}
					if text(once)+replyText(r) != want {
						t.Fatalf("call %d of %x, room %d: what is told changes as what was handed in does", i, body, n)
					}
				}
			}
		}
	}
}

// TestP0_4NoTwoShare holds that no two lists of one answer share anything, though those that were handed in do.
func TestP0_4NoTwoShare(t *testing.T) {
	shared := func() State {
		s := base()
		s.Tenants[2].Space.Pairs = s.Tenants[1].Space.Pairs
		s.Tenants[1].Revoked = append(make([]int, 0, 9), 3, 5)
		s.Tenants[2].Revoked = s.Tenants[1].Revoked
		s.Tenants[0].Revoked = s.Tenants[1].Revoked[:1]
		s.Lasts = []replies.Last{{Client: 0, ID: 2}, {Client: 2, ID: 1}, {Client: 3, ID: 1}}
		for i := range s.Lasts {
			s.Lasts[i].Reply.Keys = append(make([]string, 0, 9), "k", "l")
		}
		s.Lasts[1].Reply.Keys = s.Lasts[0].Reply.Keys
		s.Lasts[2].Reply.Keys = s.Lasts[0].Reply.Keys[:1]
		return s
	}
	for _, body := range bodies() {
		for i, call := range calls(body) {
			for _, of := range []State{shared(), wrong(shared())} {
				s, r := call(of)
				l := ofState(s)
				if x, y := apart(append(l[:len(l)-2], ofReply(r)...)); x != y {
					t.Fatalf("call %d of %x: list %d (%s) shares with list %d", i, body, x, l[x].name, y)
				}
			}
		}
	}
	for number := range 4 {
		x, _ := Of(shared(), number)
		if i, k := apart(ofTenant(x)); i != k {
			t.Fatalf("tenant %d", number)
		}
	}
}

// apart writes over lists, one behind the other, and tells the first one that changes another one, and that; twice the same, if none does.
func apart(l []piece) (int, int) {
	for i, x := range l {
		var was []string
		for _, y := range l {
			was = append(was, y.text())
		}
		x.spoil()
		for k, y := range l {
			if k != i && y.text() != was[k] {
				return i, k
			}
		}
	}
	return 0, 0
}

// TestP0_4OfNotShared holds that the tenant that Of tells is new memory, with the room behind its lists.
func TestP0_4OfNotShared(t *testing.T) {
	for _, n := range []int{0, 1, 9} {
		for _, number := range []int{0, 1, 3} {
			s := wideState(base(), n)
			was := text(whole(s))
			once, _ := Of(s, number)
			again, _ := Of(s, number)
			want := tenantText(again)
			spoil(ofTenant(once))
			if text(whole(s)) != was || tenantText(again) != want {
				t.Fatalf("tenant %d, room %d: what is told is shared", number, n)
			}
			spoil(ofState(s))
			if tenantText(again) != want {
				t.Fatalf("tenant %d, room %d: what is told changes as what was handed in does", number, n)
			}
		}
	}
}

// TestP0_4NewNotShared holds that what New, Key and Admin tell is new memory each time.
func TestP0_4NewNotShared(t *testing.T) {
	spoil(ofState(New()))
	k, a := Key(root, 1), Admin(root)
	for i := range k {
		k[i] = 0
	}
	a.Line[0].Rights = 0
	if text(New()) != text(State{Tenants: []Tenant{{Serials: 1}}}) || !bytes.Equal(Key(root, 1), keyOf(root, 1)) || Admin(root).Line[0].Rights != 15 {
		t.Error("shared")
	}
}

// TestP0_4NilIsEmpty holds that lists that are nil and empty ones are the same, wherever they stand.
func TestP0_4NilIsEmpty(t *testing.T) {
	filled := func() State {
		s := deep(New())
		s.Tenants = append(s.Tenants, Tenant{Number: 1, Serials: 1, Space: space.Space{Keys: 1, Bytes: 9, Pairs: []space.Pair{}}, Revoked: []int{}})
		s.Shares = []quota.Share{{Tenant: 1, Keys: 1, Space: 9}}
		s.Lasts = []replies.Last{{Client: 1, ID: 1, Reply: api.Reply{Keys: []string{}}}}
		return s
	}
	empty := func() State {
		s := filled()
		for i := range s.Tenants {
			s.Tenants[i].Space.Pairs, s.Tenants[i].Revoked = nil, nil
		}
		s.Links, s.Lasts[0].Reply.Keys = nil, nil
		return s
	}
	if !Same(filled(), empty()) || !Same(empty(), filled()) || !May(filled()) || !May(empty()) || !Same(New(), deep(New())) || !May(deep(New())) || !Same(State{}, deep(State{})) {
		t.Error("not the same")
	}
	for _, body := range append(bodies(), form(own(1, 7), put("k", "v"))) {
		for _, pos := range []int{0, 1} {
			e := entry(pos, pos, 1, body)
			a, r := holdsApply(t, filled(), e)
			b, p := holdsApply(t, empty(), e)
			if text(a) != text(b) || replyText(r) != replyText(p) || !Same(a, b) {
				t.Errorf("%x: %s, %s", body, replyText(r), replyText(p))
			}
		}
	}
	for _, none := range [][]byte{nil, {}} {
		if _, r := Do(none, base(), 10, none); r.Err != 150 || !bytes.Equal(Key(none, 1), keyOf(nil, 1)) {
			t.Error(replyText(r))
		}
	}
}

// TestP0_4AtOnce holds that calls that run at once don't meet in any memory.
func TestP0_4AtOnce(t *testing.T) {
	var done sync.WaitGroup
	s := wideState(base(), 9)
	for range 8 {
		done.Go(func() {
			for _, body := range bodies() {
				for _, call := range calls(body) {
					next, r := call(s)
					spoil(append(ofState(next), ofReply(r)...))
				}
				x, is := Of(s, 1)
				if !is || !May(s) || !Same(s, base()) {
					t.Error("not as alone")
				}
				spoil(ofTenant(x))
			}
		})
	}
	done.Wait()
}
