package replies

import (
	"math/rand"
	"slices"
	"sync"
	"testing"

	"seneschal/api"
)

// spoilKeys writes over keys and all the room behind them.
func spoilKeys(keys []string) {
	keys = keys[:cap(keys)]
	for i := range keys {
		keys[i] = "spoilt"
	}
}

// spoil writes over a list, the keys of all its replies, and all the room behind them.
func spoil(l []Last) {
	l = l[:cap(l)]
	for i := range l {
		spoilKeys(l[i].Reply.Keys)
		l[i] = Last{-7, -7, api.Reply{N: -7}}
	}
}

// roomy tells the list with so much room behind it, and behind each reply's keys.
func roomy(l []Last, room int) []Last {
	m := slices.Grow(slices.Clip(deep(l)), room)
	for i := range m {
		m[i].Reply.Keys = slices.Grow(slices.Clip(m[i].Reply.Keys), room)
	}
	return m
}

// TestP0_1NoPanic holds that each call ends and does not panic, whatever it is handed, and what it tells of nothing at all.
func TestP0_1NoPanic(t *testing.T) {
	c := rand.New(rand.NewSource(1))
	number := func() int {
		if c.Intn(2) == 0 {
			return int(c.Uint64())
		}
		return ends()[c.Intn(len(ends()))]
	}
	for range 10000 {
		l := perhaps(c)
		for range c.Intn(3) * c.Intn(8) {
			l = append(l, Last{number(), number(), someReply(c)})
		}
		holds(t, l, Last{number(), number(), someReply(c)})
		holds(t, l, wild(c))
	}
	if !May(nil) || !Same(nil, nil) || !SameReply(api.Reply{}, api.Reply{}) {
		t.Errorf("nothing: no table, or not the same")
	}
	holds(t, nil, Last{})
	holds(t, nil, Last{Client: 0, ID: 1})
	holds(t, make([]Last, 1), Last{})
	for _, l := range [][]Last{make([]Last, 1<<18), slices.Repeat([]Last{{Client: 3, ID: 1}}, 1<<18), slices.Repeat([]Last{{Client: 0, ID: 2}, {Client: 3, ID: 1}}, 1<<17)} {
		if May(l) || !Same(l, l) || Same(l, l[1:]) {
			t.Errorf("a table of %d, or not the same", len(l))
		}
		refuses(t, l, 3, 1, api.ErrArg)
		notes(t, l, 3, 9, marked(1), nil, api.ErrArg)
		has(t, l, 9, 0)
	}
	r := api.Reply{Keys: make([]string, 1<<16)}
	l := noted(t, nil, 1, 1, r)
	asks(t, l, 1, 1, r, true, api.OK)
}

// TestP0_2ZeroBesideError holds that beside an error, and beside false, there is nothing else.
func TestP0_2ZeroBesideError(t *testing.T) {
	c := rand.New(rand.NewSource(2))
	refused, unknown := 0, 0
	for range 20000 {
		l, x := perhaps(c), wild(c)
		if id := modelOf(l, x.Client); c.Intn(2) == 0 && id > 1 {
			x.ID = id - 1
		}
		r, known, e := Ask(l, x.Client, x.ID)
		if e != api.OK && known || !known && (text(r) != text(api.Reply{}) || r.Keys != nil) {
			t.Fatalf("%s, %v beside the error %d", text(r), known, e)
		}
		m, f := Note(l, x.Client, x.ID, x.Reply)
		if f != api.OK && len(m) != 0 || f == api.OK && len(m) == 0 {
			t.Fatalf("%s beside the error %d", texts(m), f)
		}
		if e != api.OK && f != api.OK {
			refused++
		} else if !known {
			unknown++
		}
	}
	if refused < 3000 || unknown < 3000 {
		t.Errorf("%d refused, %d not known", refused, unknown)
	}
}

// TestP0_3NothingStays holds that nothing is kept from call to call: behind calls that are refused the others answer as ahead of them.
func TestP0_3NothingStays(t *testing.T) {
	l := of(1, 4, 2, 7)
	r := marked(50)
	for range 3 {
		Note(l, 1, 4, r)
		Note(l, 2, 9, r)
		Note(l, 4, 1, r)
		Note(l, 1, 0, r)
		Note(of(2, 1, 1, 1), 1, 9, r)
		Ask(l, 1, 3)
		Ask(l, 4, 1)
		Ask(of(1, 1, 1, 2), 1, 1)
		May(of(9, 0))
		Of(of(1, 99), 1)
		Same(l, nil)
		SameReply(r, api.Reply{})
		asks(t, l, 1, 4, one(1, 4).Reply, true, api.OK)
		asks(t, l, 2, 7, one(2, 7).Reply, true, api.OK)
		isNew(t, l, 2, 9)
		isNew(t, l, 0, 1)
		notes(t, l, 2, 8, r, []Last{one(1, 4), {2, 8, r}}, api.OK)
		notes(t, l, 1, 3, r, nil, api.ErrStale)
		has(t, l, 1, 4)
		isNew(t, nil, 1, 4)
	}
}

// TestP0_4NotChanged holds that lists that are handed in aren't changed, nor their replies' keys, nor what is in the room behind them, which doesn't count either.
func TestP0_4NotChanged(t *testing.T) {
	c := rand.New(rand.NewSource(3))
	for range 2000 {
		room := append(perhaps(c), one(0, 9), one(3, 1), one(9, 9))
		for i := range room {
			keys := append(room[i].Reply.Keys, "behind", "them")
			room[i].Reply.Keys = keys[:len(keys)-2]
		}
		x := wild(c)
		keys := []string{"a", "b", "c"}
		x.Reply.Keys = keys[:c.Intn(3)]
		want := texts(room)
		for n := range len(room) + 1 {
			holds(t, room[:n], x)
			holds(t, room[:n], Last{x.Client, modelOf(room[:n], x.Client), x.Reply})
			if a, b := room[:n], deep(room[:n]); !Same(a, b) {
				t.Fatalf("\n%snot the same", texts(a))
			}
			if texts(room) != want {
				t.Fatalf("\n%schanged to\n%s", want, texts(room))
			}
		}
		for _, x := range room {
			if k := x.Reply.Keys; !slices.Equal(k[:len(k)+2][len(k):], []string{"behind", "them"}) {
				t.Fatalf("the room behind %q: %q", k, k[:len(k)+2])
			}
		}
		if !slices.Equal(keys, []string{"a", "b", "c"}) {
			t.Fatalf("%q", keys)
		}
	}
}

// TestP0_4NotShared holds that what Note tells is new memory, keys of all replies among it, with the room behind it, whoever is noted and wherever that stands.
func TestP0_4NotShared(t *testing.T) {
	for set := range 1 << clients {
		for client := range clients {
			for _, room := range []int{0, 1, 9} {
				var p table
				for other := range clients {
					if set>>other&1 == 1 {
						p[other].id, p[other].reply = 3, marked(other)
					}
				}
				l := roomy(p.laid(), room)
				given := roomy([]Last{{Reply: marked(50)}}, room)[0].Reply
				behind := l[:cap(l)]
				was, wasGiven := texts(behind), text(given)
				once := noted(t, l, client, 4, given)
				again := noted(t, l, client, 4, given)
				want := texts(again)
				spoil(append(once, Last{}))
				spoil(once)
				if texts(again) != want || texts(behind) != was || text(given) != wasGiven {
					t.Fatalf("set %b, client %d, room %d: what is told is shared", set, client, room)
				}
				spoil(l)
				spoilKeys(given.Keys)
				if texts(again) != want {
					t.Fatalf("set %b, client %d, room %d: what is told changes as what was handed in does", set, client, room)
				}
			}
		}
	}
}

// TestP0_4ReplyNotShared holds that the reply that Ask tells is new memory, with the room behind its keys.
func TestP0_4ReplyNotShared(t *testing.T) {
	for client := range clients {
		for _, room := range []int{0, 1, 9} {
			l := roomy(of(0, 1, 1, 1, 2, 1, 3, 1), room)
			was := texts(l)
			once, _, _ := Ask(l, client, 1)
			again, _, _ := Ask(l, client, 1)
			want := text(again)
			spoilKeys(append(once.Keys, "more"))
			spoilKeys(once.Keys)
			for _, x := range l {
				if k := x.Reply.Keys; slices.Contains(k[:cap(k)], "spoilt") || slices.Contains(k[:cap(k)], "more") {
					t.Fatalf("client %d, room %d: %q", client, room, k[:cap(k)])
				}
			}
			if text(again) != want || texts(l) != was {
				t.Fatalf("client %d, room %d: what is told is shared", client, room)
			}
			spoil(l)
			if text(again) != want {
				t.Fatalf("client %d, room %d: what is told changes as what was handed in does", client, room)
			}
		}
	}
}

// TestP0_4NoTwoShare holds that no two replies of one answer share keys, though those that were handed in do.
func TestP0_4NoTwoShare(t *testing.T) {
	r := api.Reply{Keys: slices.Grow([]string{"a", "b"}, 5)}
	for client := range clients {
		l := []Last{{0, 1, r}, {1, 1, r}, {2, 1, r}, {3, 1, r}}
		for i := range clients {
			m := noted(t, l, client, 2, r)
			spoilKeys(append(m[i].Reply.Keys, "more"))
			spoilKeys(m[i].Reply.Keys)
			for k, x := range m {
				if keys := x.Reply.Keys; k != i && (!slices.Equal(keys, []string{"a", "b"}) || slices.Contains(keys[:cap(keys)], "spoilt")) {
					t.Fatalf("client %d: %d's keys are %d's", client, k, i)
				}
			}
			if room := r.Keys[:cap(r.Keys)]; slices.Contains(room, "spoilt") || slices.Contains(room, "more") {
				t.Fatalf("client %d: %d's keys are the ones handed in", client, i)
			}
		}
	}
}

// TestP0_4NotKept holds that the caller may change its list behind a call: the next one looks at it anew.
func TestP0_4NotKept(t *testing.T) {
	l := of(1, 4, 2, 7)
	asks(t, l, 1, 4, one(1, 4).Reply, true, api.OK)
	l[0].ID = 5
	l[0].Reply.Keys[1] = "other"
	has(t, l, 1, 5)
	refuses(t, l, 1, 4, api.ErrStale)
	asks(t, l, 1, 5, l[0].Reply, true, api.OK)
	l[0].Client = 0
	isNew(t, l, 1, 4)
	notes(t, l, 1, 1, marked(9), []Last{l[0], {1, 1, marked(9)}, l[1]}, api.OK)
	l[0].Client = 2
	isNone(t, l)
}

// TestP0_4NilIsEmpty holds that lists that are nil and empty ones are the same: keys, too.
func TestP0_4NilIsEmpty(t *testing.T) {
	l := of(0, 1, 1, 2)
	keys := []string{"a", "b"}
	noKeys := [][]string{nil, {}, keys[:0], keys[2:]}
	for _, none := range [][]Last{nil, {}, l[:0], l[2:]} {
		if !May(none) {
			t.Errorf("none, room for %d: no table", cap(none))
		}
		has(t, none, 0, 0)
		isNew(t, none, 0, 1)
		notes(t, none, 3, 1, marked(1), []Last{{3, 1, marked(1)}}, api.OK)
		if !Same(none, nil) || !Same([]Last{}, none) || !Same(none, l[1:1]) || Same(none, l) || Same(l, none) {
			t.Errorf("none, room for %d: not the same", cap(none))
		}
	}
	for _, a := range noKeys {
		for _, b := range noKeys {
			x, y := api.Reply{Value: "v", Keys: a}, api.Reply{Value: "v", Keys: b}
			if !SameReply(x, y) || !Same([]Last{{1, 1, x}}, []Last{{1, 1, y}}) {
				t.Errorf("no keys: not the same")
			}
			m := noted(t, []Last{{1, 1, x}}, 2, 1, y)
			asks(t, m, 1, 1, y, true, api.OK)
			asks(t, m, 2, 1, x, true, api.OK)
			_, _ = append(m[0].Reply.Keys, "c"), append(m[1].Reply.Keys, "c")
		}
	}
	if texts(l) != texts(of(0, 1, 1, 2)) || !slices.Equal(keys, []string{"a", "b"}) {
		t.Errorf("%s%q: not as it was", texts(l), keys)
	}
}

// TestP0_4AtOnce holds that calls that run at once don't meet in any memory.
func TestP0_4AtOnce(t *testing.T) {
	var done sync.WaitGroup
	l := roomy(of(1, 4, 2, 7), 9)
	given := marked(50)
	for i := range 8 {
		done.Go(func() {
			for n := range 500 {
				id := 8 + i + n
				m, e := Note(l, 2, id, given)
				r, known, f := Ask(m, 2, id)
				s, before, g := Ask(l, 2, 7)
				if e != api.OK || f != api.OK || g != api.OK || !known || !before || text(r) != text(given) || text(s) != text(one(2, 7).Reply) || Of(m, 1) != 4 || Of(l, 2) != 7 || !Same(m, []Last{one(1, 4), {2, id, given}}) {
					t.Errorf("%d, %d: not as alone", i, n)
				}
				spoil(m)
				spoilKeys(r.Keys)
				spoilKeys(s.Keys)
			}
		})
	}
	done.Wait()
}
