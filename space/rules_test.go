package space

import (
	"math"
	"math/rand"
	"slices"
	"strings"
	"sync"
	"testing"

	"seneschal/api"
)

// spoil writes over pairs and all the room behind them.
func spoil(l []Pair) {
	l = l[:cap(l)]
	for i := range l {
		l[i] = Pair{"spoilt", "spoilt"}
	}
}

// all calls each call with these, and tells what they tell: the errors, the spaces, the texts.
func all(s Space, k, old, v string, n, keys, bytes int) ([]api.Errno, []Space, []string) {
	made, a := New(keys, bytes)
	value, b := Get(s, k)
	put, c := Put(s, k, v)
	swapped, d := Swap(s, k, old, v)
	deleted, e := Del(s, k)
	sized, f := Resize(s, keys, bytes)
	return []api.Errno{a, b, c, d, e, f}, []Space{made, {}, put, swapped, deleted, sized}, append(List(s, k, n), value)
}

// TestP0_1NoPanic holds that each call ends and does not panic, whatever it is handed, and what it tells of nothing at all.
func TestP0_1NoPanic(t *testing.T) {
	c := rand.New(rand.NewSource(1))
	number := func() int {
		if c.Intn(2) == 0 {
			return int(c.Uint64())
		}
		return ends()[c.Intn(len(ends()))]
	}
	for range 20000 {
		s := perhaps(c)
		if c.Intn(3) == 0 {
			s.Keys, s.Bytes = number(), number()
		}
		for range c.Intn(3) * c.Intn(60) {
			s.Pairs = append(s.Pairs, Pair{text(c, 30), text(c, 70)})
		}
		k, v := text(c, 30), text(c, 70)
		all(s, k, text(c, 70), v, number(), number(), number())
		Used(s)
		if May(s) != isSpace(s) || !Same(s, copied(s)) {
			t.Fatalf("%#v: not as it should be", s)
		}
	}
	long := Space{Keys: math.MaxInt, Bytes: math.MaxInt, Pairs: make([]Pair, 100000)}
	isNone(t, long)
	huge := strings.Repeat("x", 1<<24)
	holds(t, wide("a", "1"), huge, huge, huge, 1, 1, 1)
	isNone(t, wide("a", huge))
	isNone(t, wide(huge, "1"))
	if !May(Space{}) || !Same(Space{}, Space{}) {
		t.Errorf("of nothing: not as it should be")
	}
	holds(t, Space{}, "", "", "", 0, 0, 0)
	holds(t, Space{}, "a", "", "", math.MaxInt, 1, 1)
}

// TestP0_2ZeroBesideError holds that beside an error there is no space, no value: no limits, no pairs.
func TestP0_2ZeroBesideError(t *testing.T) {
	c := rand.New(rand.NewSource(2))
	bad := 0
	for range 20000 {
		s := perhaps(c)
		errors, spaces, texts := all(s, text(c, 2)+"k", text(c, 1), text(c, 70), c.Intn(4)-1, c.Intn(70), c.Intn(90))
		for i, e := range errors {
			if e == api.OK {
				continue
			}
			bad++
			if x := spaces[i]; x.Keys != 0 || x.Bytes != 0 || len(x.Pairs) != 0 {
				t.Fatalf("%#v: %#v beside the error %d", s, x, e)
			}
			if i == 1 && texts[len(texts)-1] != "" {
				t.Fatalf("%#v: %q beside the error %d", s, texts, e)
			}
		}
	}
	if bad < 10000 {
		t.Errorf("%d errors", bad)
	}
}

// TestP0_3NothingStays holds that nothing is kept from call to call: behind calls that are refused the others answer as ahead of them.
func TestP0_3NothingStays(t *testing.T) {
	s := of(2, 10, "a", "1")
	for range 3 {
		New(-1, 0)
		Put(s, "", "2")
		Put(s, "a", "1234567890")
		Put(of(1, 1), "zz", "")
		Swap(s, "a", "2", "3")
		Swap(s, "b", "1", "3")
		Del(s, "b")
		Resize(s, 0, 0)
		Resize(wide("b", "", "a", ""), 9, 9)
		List(wide("x", "", "y", ""), "", 9)
		puts(t, s, "b", "2", of(2, 10, "a", "1", "b", "2"), api.OK)
		puts(t, s, "A", "2", of(2, 10, "A", "2", "a", "1"), api.OK)
		swaps(t, s, "a", "1", "3", of(2, 10, "a", "3"), api.OK)
		dels(t, s, "a", of(2, 10), api.OK)
		resizes(t, s, 1, 2, of(1, 2, "a", "1"), api.OK)
		lists(t, s, "", 9, "a")
		gets(t, s, "a", "1", api.OK)
		uses(t, s, 1, 2)
	}
}

// TestP0_4NotChanged holds that pairs that are handed in aren't changed, nor what is in the room behind them, which doesn't count either.
func TestP0_4NotChanged(t *testing.T) {
	c := rand.New(rand.NewSource(3))
	for range 3000 {
		s := someSpace(c, 12)
		room := append(copied(s).Pairs, Pair{"zzk", "1"}, Pair{"", ""}, Pair{"zzk", "2"}, Pair{"a", "3"})
		want := slices.Clone(room)
		for n := range len(room) + 1 {
			x := Space{s.Keys, s.Bytes, room[:n]}
			k, v := text(c, 2)+"k", text(c, 9)
			if n > 0 && c.Intn(2) == 0 {
				k = room[c.Intn(n)].Key
			}
			holds(t, x, k, table(x)[k], v, c.Intn(9), c.Intn(20), c.Intn(90))
			holds(t, x, "zzk", "1", v, 9, mostKeys, mostBytes)
			if Same(x, Space{s.Keys, s.Bytes, room}) != (n == len(room)) || !Same(x, copied(x)) {
				t.Fatalf("%#v: the room behind it counts", x)
			}
			if !slices.Equal(room, want) {
				t.Fatalf("%#v: changed to %#v", want, room)
			}
		}
	}
}

// TestP0_4NotShared holds that what is told is new memory, with the room behind it, wherever the key stands, and whatever stays as it was.
func TestP0_4NotShared(t *testing.T) {
	for n := range 20 {
		for at := range n + 1 {
			for _, room := range []int{0, 1, 9} {
				s := many(n, "v")
				s.Pairs = slices.Grow(slices.Clip(s.Pairs), room)
				want := copied(s)
				ask := func() []Space {
					put, _ := Put(s, name(at), "v")
					other, _ := Put(s, name(at), "w")
					between, _ := Put(s, name(at)+"x", "")
					swapped, _ := Swap(s, name(at), "v", "v")
					deleted, _ := Del(s, name(at))
					sized, _ := Resize(s, n, 3*n)
					same, _ := Resize(s, mostKeys, mostBytes)
					return []Space{put, other, between, swapped, deleted, sized, same}
				}
				first, again := ask(), ask()
				kept := make([]Space, len(again))
				for i, x := range again {
					kept[i] = copied(x)
				}
				for i, x := range first {
					spoil(x.Pairs)
					for k := range again {
						if !equal(again[k], kept[k]) || k > i && !equal(first[k], kept[k]) {
							t.Fatalf("%d of %d: what call %d told is shared with what call %d told", at, n, i, k)
						}
					}
					if !equal(s, want) {
						t.Fatalf("%d of %d: what call %d told is shared with what it was handed", at, n, i)
					}
				}
				spoil(s.Pairs)
				for i, x := range again {
					if !equal(x, kept[i]) {
						t.Fatalf("%d of %d: what call %d told changes as what it was handed does", at, n, i)
					}
				}
			}
		}
	}
}

// TestP0_4RoomIsNew holds that the caller may put more behind what is told without its coming to stand in what it handed in.
func TestP0_4RoomIsNew(t *testing.T) {
	for n := range 9 {
		s := many(n, "v")
		s.Pairs = slices.Grow(s.Pairs, 9)
		behind := s.Pairs[:n+5]
		want := slices.Clone(behind)
		for at := range n {
			deleted, _ := Del(s, name(at))
			sized, _ := Resize(s, mostKeys, mostBytes)
			put, _ := Put(s, name(at), "v")
			for _, x := range []Space{deleted, sized, put} {
				_ = append(x.Pairs, Pair{"more", ""}, Pair{"yet", "1"})
				spoil(x.Pairs)
			}
			l := List(s, "", n-at)
			_ = append(l, "more")
			clear(l[:cap(l)])
			if !slices.Equal(behind, want) {
				t.Fatalf("%d of %d: %#v, not %#v", at, n, behind, want)
			}
		}
	}
}

// TestP0_4ListNotShared holds that keys that are listed are new memory, and don't change as the space does.
func TestP0_4ListNotShared(t *testing.T) {
	s := wide("a", "1", "b", "2", "c", "3")
	x, y := List(s, "", 2), List(s, "", 2)
	clear(x[:cap(x)])
	if !slices.Equal(y, []string{"a", "b"}) {
		t.Errorf("%q: shared", y)
	}
	spoil(s.Pairs)
	if !slices.Equal(y, []string{"a", "b"}) {
		t.Errorf("%q: changes as the space does", y)
	}
}

// TestP0_4NotKept holds that the caller may change its pairs behind a call: the next one looks at them anew.
func TestP0_4NotKept(t *testing.T) {
	s := of(2, 10, "a", "1", "b", "2")
	gets(t, s, "b", "2", api.OK)
	uses(t, s, 2, 4)
	s.Pairs[1] = Pair{"c", "34"}
	gets(t, s, "b", "", api.ErrKey)
	gets(t, s, "c", "34", api.OK)
	lists(t, s, "", 9, "a", "c")
	uses(t, s, 2, 5)
	s.Pairs[1].Key = "a"
	isNone(t, s)
}

// TestP0_4NilIsEmpty holds that lists that are nil and empty ones are the same.
func TestP0_4NilIsEmpty(t *testing.T) {
	l := wide("a", "1", "b", "2").Pairs
	for _, none := range [][]Pair{nil, {}, l[:0], l[2:]} {
		s := Space{Keys: 2, Bytes: 10, Pairs: none}
		for _, other := range [][]Pair{nil, {}, l[:0]} {
			if x := (Space{Keys: 2, Bytes: 10, Pairs: other}); !Same(s, x) || !Same(x, s) {
				t.Errorf("none, room %d and %d: not the same", cap(none), cap(other))
			}
		}
		holds(t, s, "a", "1", "9", 9, 2, 10)
		holds(t, s, "b", "", "", 9, 0, 0)
		if !May(s) {
			t.Errorf("none, room %d: no space", cap(none))
		}
	}
	if !slices.Equal(l, wide("a", "1", "b", "2").Pairs) {
		t.Errorf("%q: not as it was", l)
	}
}

// TestP0_4AtOnce holds that calls that run at once don't meet in any memory.
func TestP0_4AtOnce(t *testing.T) {
	var done sync.WaitGroup
	s := of(3, 20, "b", "1", "d", "2")
	s.Pairs = slices.Grow(s.Pairs, 9)
	for i := range 8 {
		done.Go(func() {
			for n := range 500 {
				v := strings.Repeat("v", (i+n)%9)
				c, e := Put(s, "c", v)
				b, f := Swap(s, "b", "1", v)
				d, g := Del(s, "d")
				r, h := Resize(s, 2, 4+n%9)
				if e != api.OK || f != api.OK || g != api.OK || h != api.OK || !equal(c, of(3, 20, "b", "1", "c", v, "d", "2")) || !equal(b, of(3, 20, "b", v, "d", "2")) || !equal(d, of(3, 20, "b", "1")) || !equal(r, of(2, 4+n%9, "b", "1", "d", "2")) || !slices.Equal(List(s, "", 9), []string{"b", "d"}) {
					t.Errorf("%d, %d: not as alone", i, n)
				}
			}
		})
	}
	done.Wait()
}
