package rights

import (
	"math"
	"math/rand"
	"slices"
	"sync"
	"testing"

	"seneschal/api"
)

// TestP0_1NoPanic holds that each call ends and does not panic, whatever it is handed, and what it tells of nothing at all.
func TestP0_1NoPanic(t *testing.T) {
	c := rand.New(rand.NewSource(1))
	for range 20000 {
		l := make([]api.Grant, c.Intn(8))
		for i := range l {
			l[i] = gr(uint8(c.Intn(256)), int(c.Uint64()), int(c.Uint64()))
			May(l[i])
		}
		b := make([]byte, c.Intn(8))
		c.Read(b)
		Parse(string(b))
		Line(l)
		Leaves(l)
		Serials(l)
		Within(l, l[:len(l)/2])
		Within(l[:len(l)/2], l)
	}
	for _, x := range []int{math.MinInt, 0, math.MaxInt} {
		for _, y := range []int{math.MinInt, 0, math.MaxInt} {
			isNone(t, "the ends of what an int holds", []api.Grant{gr(1, x, y)})
		}
	}
	isNone(t, "nil", nil)
	if May(api.Grant{}) || len(Serials(nil)) != 0 {
		t.Errorf("of nothing: not as it should be")
	}
}

// TestP0_2ZeroBesideError holds that beside an error, and a false, there is nothing of what was found ahead of it.
func TestP0_2ZeroBesideError(t *testing.T) {
	for _, l := range [][]api.Grant{nil, {}, {gr(15, 50, 1), gr(16, 40, 1)}, {gr(15, 50, 1), gr(15, -1, 1)}, {gr(15, 50, 0)}, times(5, gr(15, 50, 1))} {
		if r, expiry, e := Leaves(l); r != 0 || expiry != 0 || e != api.ErrArg {
			t.Errorf("%v: rights %d, expiry %d, error %d", l, r, expiry, e)
		}
	}
	for _, s := range []string{"r-", "rr", "rwlaw", "r ", "wr"} {
		if r, ok := Parse(s); r != 0 || ok {
			t.Errorf("Parse(%q): %d, %v", s, r, ok)
		}
	}
}

// TestP0_3NothingStays holds that nothing is kept from call to call: behind calls that are refused the others answer as ahead of them.
func TestP0_3NothingStays(t *testing.T) {
	l := []api.Grant{gr(7, 50, 1), gr(5, 90, 2)}
	for range 3 {
		Leaves(nil)
		Leaves([]api.Grant{gr(0, 0, 1), gr(16, 0, 0)})
		Parse("lr")
		Text(200)
		Within(nil, l)
		Within(l, nil)
		leaves(t, l, 5, 50)
		if r, ok := Parse("rl"); r != 5 || !ok || Text(5) != "rl" || Text(15) != "rwla" || !Within(l, l) {
			t.Fatalf("behind others: not as ahead of them")
		}
	}
}

// TestP0_4NotChanged holds that grants that are handed in aren't changed, nor those in the room behind them, which don't count either.
func TestP0_4NotChanged(t *testing.T) {
	c := rand.New(rand.NewSource(2))
	for range 2000 {
		room := []api.Grant{someGrant(c), someGrant(c), someGrant(c), someGrant(c), someGrant(c), someGrant(c), someGrant(c)}
		want := slices.Clone(room)
		for n := range room {
			l := room[:n]
			Line(l)
			Serials(l)
			Within(l, room[n:])
			Within(room[n:], l)
			r, expiry, e := Leaves(l)
			if again, until, f := Leaves(slices.Clip(slices.Clone(l))); again != r || until != expiry || f != e {
				t.Fatalf("%v: the room behind it counts", l)
			}
			if !slices.Equal(room, want) {
				t.Fatalf("%v: changed to %v", want, room)
			}
		}
	}
}

// TestP0_4NotShared holds that serials are new memory, with the room behind them, and that they don't change as the grants do.
func TestP0_4NotShared(t *testing.T) {
	for n := range 9 {
		var l []api.Grant
		var want []int
		for i := range n {
			l = append(l, gr(1, 1, i+1))
			want = append(want, i+1)
		}
		kept := slices.Clone(l)
		x, y := Serials(l), Serials(l)
		clear(x[:cap(x)])
		if !slices.Equal(y, want) || !slices.Equal(l, kept) || !slices.Equal(Serials(l), want) {
			t.Errorf("%d grants: serials are shared", n)
		}
		clear(l[:cap(l)])
		if !slices.Equal(y, want) {
			t.Errorf("%d grants: serials change as the grants do", n)
		}
	}
}

// TestP0_4NotKept holds that the caller may change its grants behind a call: the next one looks at them anew.
func TestP0_4NotKept(t *testing.T) {
	l := []api.Grant{gr(15, 50, 1)}
	leaves(t, l, 15, 50)
	l[0] = gr(3, 40, 2)
	leaves(t, l, 3, 40)
	if !slices.Equal(Serials(l), []int{2}) {
		t.Errorf("serials %d, not 2", Serials(l))
	}
	l[0].Rights = 16
	isNone(t, "changed", l)
}

// TestP0_4NilIsEmpty holds that lists that are nil and empty ones are the same.
func TestP0_4NilIsEmpty(t *testing.T) {
	l := times(4, gr(15, 50, 1))
	for _, none := range [][]api.Grant{nil, {}, l[:0], l[4:]} {
		isNone(t, "none", none)
		if got := Serials(none); len(got) != 0 {
			t.Errorf("none, room %d: serials %d", cap(none), got)
		}
	}
}

// TestP0_4AtOnce holds that calls that run at once don't meet in any memory.
func TestP0_4AtOnce(t *testing.T) {
	var all sync.WaitGroup
	l := []api.Grant{gr(7, 50, 1), gr(5, 90, 2), gr(4, 40, 3)}
	for i := range 8 {
		all.Go(func() {
			for n := range 500 {
				r := uint8((i + n) % 16)
				read, ok := Parse(texts[r])
				x, expiry, e := Leaves(l[:i%3+1])
				if Text(r) != texts[r] || read != r || !ok || x != [3]uint8{7, 5, 4}[i%3] || expiry != [3]int{50, 50, 40}[i%3] || e != api.OK || !slices.Equal(Serials(l), []int{1, 2, 3}) {
					t.Errorf("%d, %d: not as alone", i, n)
				}
			}
		})
	}
	all.Wait()
}
