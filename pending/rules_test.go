package pending

import (
	"bytes"
	"fmt"
	"math"
	"slices"
	"sync"
	"testing"
)

// box is a key that may have a box in it.
type box struct{ in any }

// nothingOf holds what each call tells of a list that nobody made, with that key, and that no call makes it one.
func nothingOf[K comparable, V comparable](t *testing.T, l *List[K, V], k K, v V) {
	t.Helper()
	var zero V
	for range 2 {
		if l.Put(k, v) {
			t.Errorf("%T: Put", l)
		}
		if got, is := l.Get(k); is || got != zero {
			t.Errorf("%T: Get: %v, %v", l, got, is)
		}
		if got, is := l.Take(k); is || got != zero {
			t.Errorf("%T: Take: %v, %v", l, got, is)
		}
		for _, n := range someOf(3) {
			if got := l.First(n); len(got) != 0 {
				t.Errorf("%T: First of %d: %v", l, n, got)
			}
		}
		if l.Len() != 0 || !l.Full() {
			t.Errorf("%T: Len %d, Full %v", l, l.Len(), l.Full())
		}
	}
}

// TestP0_1NobodyMade holds what each call tells of a list that is nil, or that nobody made.
func TestP0_1NobodyMade(t *testing.T) {
	var zero List[int, string]
	for _, l := range []*List[int, string]{nil, new(List[int, string]), {}, &zero} {
		for _, k := range []int{0, 1, -1, math.MinInt, math.MaxInt} {
			nothingOf(t, l, k, "a")
			nothingOf(t, l, k, "")
		}
	}
	for _, l := range []*List[pair, int]{nil, {}} {
		nothingOf(t, l, pair{}, 0)
		nothingOf(t, l, pair{1, 2}, 3)
	}
	for _, l := range []*List[any, any]{nil, {}} {
		for _, k := range append(cannot(), nil, 1, "a", math.NaN()) {
			nothingOf(t, l, k, any(1))
		}
	}
	var none *List[int, []byte]
	if v, is := none.Get(1); v != nil || is || none.Put(1, []byte{1}) {
		t.Errorf("%v, %v", v, is)
	}
}

// cannot tells keys that can't be held against others.
func cannot() []any {
	return []any{
		[]int{}, []int(nil), []byte{1}, map[int]int{}, map[int]int(nil), func() {}, (func())(nil),
		[1][]int{}, struct{ f func() }{}, box{[]int{}}, box{box{map[int]int{}}}, [2]any{1, []int{}},
		held[any, any]{1, []int{}}, held[float64, any]{math.NaN(), []int{}}, held[any, any]{[]int{}, math.NaN()},
	}
}

// TestP0_1CannotBeHeld holds that a key that can't be held against others is in no list, and that asking for it neither panics nor changes anything.
func TestP0_1CannotBeHeld(t *testing.T) {
	for n := range 4 {
		for _, most := range []int{n, n + 1, 9} {
			l, keys := New[any, int](most), []any{"a", 1, pair{1, 2}}[:n]
			for i, k := range keys {
				if !l.Put(k, i+1) {
					t.Fatalf("Put of %v", k)
				}
			}
			for _, k := range append(cannot(), cannot()...) {
				if l.Put(k, 7) {
					t.Errorf("Put of %T into %d of %d", k, n, most)
				}
				if v, is := l.Get(k); v != 0 || is {
					t.Errorf("Get of %T: %d, %v", k, v, is)
				}
				if v, is := l.Take(k); v != 0 || is {
					t.Errorf("Take of %T: %d, %v", k, v, is)
				}
				keysAre(t, l, n == most, keys...)
			}
			for i, k := range keys {
				if v, is := l.Take(k); v != i+1 || !is {
					t.Errorf("Take of %v: %d, %v", k, v, is)
				}
			}
			keysAre(t, l, most == 0)
		}
	}
	boxes := New[box, int](2)
	if boxes.Put(box{[]int{}}, 1) || !boxes.Put(box{1}, 1) || boxes.Put(box{map[int]int{}}, 1) || !boxes.Put(box{2}, 2) || boxes.Put(box{func() {}}, 1) {
		t.Errorf("boxes")
	}
	keysAre(t, boxes, true, box{1}, box{2})
}

// TestP0_1NotItself holds that a key that isn't even itself is put as one that isn't there, till the list is full, and is never found.
func TestP0_1NotItself(t *testing.T) {
	nan := math.NaN()
	l := New[float64, int](3)
	for i := range 3 {
		if _, is := l.Get(nan); is || !l.Put(nan, i) {
			t.Fatalf("%d of them: there, or not put", i)
		}
		if v, is := l.Take(nan); is || v != 0 || l.Len() != i+1 {
			t.Fatalf("Take: %d, %v", v, is)
		}
	}
	if l.Put(nan, 3) || l.Put(1, 3) {
		t.Errorf("Put into a full list")
	}
	keysAre(t, l, true, nan, nan, nan)
	zeros := New[float64, int](2)
	if !zeros.Put(0, 1) || !zeros.Put(math.Copysign(0, -1), 2) || zeros.Len() != 1 || math.Signbit(zeros.First(1)[0]) {
		t.Errorf("0 and -0 are one key: %v", zeros.First(2))
	}
	if v, is := zeros.Take(0); v != 2 || !is || zeros.Len() != 0 {
		t.Errorf("%d, %v, %d", v, is, zeros.Len())
	}
}

// TestP0_1Deep holds that keys in keys, 2^16 levels deep, are keys as others are.
func TestP0_1Deep(t *testing.T) {
	deep := func(in any) any {
		for range 1 << 16 {
			in = box{in}
		}
		return in
	}
	l := New[any, int](3)
	if !l.Put(deep(1), 1) || !l.Put(deep(2), 2) || !l.Put(deep(1), 3) || l.Put(deep([]int{}), 4) || l.Len() != 2 {
		t.Fatalf("Len %d", l.Len())
	}
	if v, is := l.Take(deep(1)); v != 3 || !is || l.Len() != 1 {
		t.Errorf("%d, %v", v, is)
	}
}

// TestP0_2NothingBesideNo holds that beside no there is the zero value, also where a value was.
func TestP0_2NothingBesideNo(t *testing.T) {
	l := New[int, pair](2)
	l.Put(1, pair{1, 1})
	l.Put(2, pair{2, 2})
	l.Take(1)
	for range 2 {
		if v, is := l.Take(1); v != (pair{}) || is {
			t.Errorf("Take: %v, %v", v, is)
		}
		if v, is := l.Get(1); v != (pair{}) || is {
			t.Errorf("Get: %v, %v", v, is)
		}
	}
	if got := New[int, int](3).First(3); len(got) != 0 {
		t.Errorf("First: %v", got)
	}
}

// TestP0_3Refused holds that what is refused changes nothing that a later call could tell.
func TestP0_3Refused(t *testing.T) {
	keys := upTo(0, 7)
	for seed := range 100 {
		most := seed % 6
		x, y := start[int, int](most), start[int, int](most)
		for step := range 60 {
			which := (step*31 + seed*17 + step*step) % (2 * len(keys))
			act(t, x, keys, which, step)
			act(t, y, keys, which, step)
			for _, k := range append(upTo(-3, 3), upTo(7, 3)...) {
				if v, is := x.l.Take(k); v != 0 || is {
					t.Fatalf("Take of %d: %d, %v", k, v, is)
				}
				if x.l.Full() && x.l.Put(k, step) {
					t.Fatalf("Put of %d", k)
				}
			}
			x.asIs(t, keys)
			y.asIs(t, keys)
		}
	}
}

// TestP0_4First holds that the keys that First tells are new memory each time, the room behind them too, and that writing over them changes no list.
func TestP0_4First(t *testing.T) {
	for n := range 40 {
		l := filled(t, 50, upTo(1, n)...)
		var told [][]int
		for _, k := range append(someOf(n), someOf(n)...) {
			got := l.First(k)
			if !slices.Equal(got, upTo(1, min(max(k, 0), n))) {
				t.Fatalf("First of %d: %v", k, got)
			}
			told = append(told, got)
			got = got[:cap(got)]
			for i := range got {
				got[i] = -k - i
			}
			keysAre(t, l, false, upTo(1, n)...)
		}
		held := make([][]int, len(told))
		for i, x := range told {
			held[i] = slices.Clone(x)
		}
		l.Take(1)
		puts(t, l, true, 99, "x")
		for i, x := range told {
			if !slices.Equal(x, held[i]) {
				t.Fatalf("%v, not %v: calls change what was told", x, held[i])
			}
		}
	}
}

// roomy tells bytes with so much room behind them.
func roomy(b []byte, room int) []byte {
	return append(slices.Clip(bytes.Clone(b)), make([]byte, room)...)[:len(b)]
}

// spoil writes over bytes and all the room behind them.
func spoil(b []byte) {
	b = b[:cap(b)]
	for i := range b {
		b[i] ^= 0xa5
	}
}

// TestP0_4Bytes holds that bytes that are put as a value are neither changed nor kept, and that Get and Take tell new ones.
func TestP0_4Bytes(t *testing.T) {
	bytesOf(t, func(b []byte) []byte { return b }, func(v []byte) []byte { return v })
	bytesOf(t, func(b []byte) any { return b }, func(v any) []byte { return v.([]byte) })
}

// bytesOf holds it of values that are bytes, or hold them.
func bytesOf[V any](t *testing.T, to func([]byte) V, from func(V) []byte) {
	t.Helper()
	for _, size := range []int{0, 1, 2, 7, 8, 31, 64, 1000} {
		for _, room := range []int{0, 1, 9, 100} {
			want := bytes.Repeat([]byte{7, 9, 1}, size)[:size]
			l, b := New[int, V](3), roomy(want, room)
			l.Put(1, to(b))
			l.Put(2, to(b))
			l.Put(2, to(b)) // once more, where it is there
			if !bytes.Equal(b, want) || !bytes.Equal(b[:cap(b)][size:size+room], make([]byte, room)) {
				t.Fatalf("size %d, room %d: changed: %v", size, room, b[:cap(b)])
			}
			spoil(b)
			for range 3 {
				for k := 1; k <= 2; k++ {
					v, is := l.Get(k)
					if !is || !bytes.Equal(from(v), want) {
						t.Fatalf("size %d, room %d: Get: %v, %v", size, room, from(v), is)
					}
					spoil(from(v))
				}
			}
			v, is := l.Take(1)
			if !is || !bytes.Equal(from(v), want) {
				t.Fatalf("size %d, room %d: Take: %v, %v", size, room, from(v), is)
			}
			spoil(from(v))
			if v, is = l.Take(2); !is || !bytes.Equal(from(v), want) {
				t.Fatalf("size %d, room %d: of the other one: %v, %v", size, room, from(v), is)
			}
		}
	}
}

// TestP0_4SameThing holds that a value that isn't bytes is the one that was put: what it points to isn't copied.
func TestP0_4SameThing(t *testing.T) {
	x := &pair{1, 2}
	l := New[int, *pair](1)
	l.Put(1, x)
	if got, is := l.Get(1); got != x || !is {
		t.Errorf("Get: another one")
	}
	if got, is := l.Take(1); got != x || !is {
		t.Errorf("Take: another one")
	}
}

// TestP0_4Apart holds that lists have nothing of one another.
func TestP0_4Apart(t *testing.T) {
	x, y, z := Texts(2), Texts(2), New[int, string](2)
	if x == nil || x == y || y == z {
		t.Fatal("the same list, or none")
	}
	puts(t, x, true, 1, "a")
	puts(t, x, true, 2, "b")
	keysAre(t, y, false)
	puts(t, y, true, 2, "c")
	keysAre(t, x, true, 1, 2)
	keysAre(t, z, false)
	takes(t, z, 2, "", false)
	takes(t, x, 2, "b", true)
	has(t, y, 2, "c", true)
	has(t, x, 1, "a", true)
	keysAre(t, Texts(2), false)
}

// TestP0_4AtOnce holds that lists that run at once don't meet in any memory, and that one may be asked by many, while nobody puts or takes.
func TestP0_4AtOnce(t *testing.T) {
	var all sync.WaitGroup
	one := filled(t, 3, 5, 3)
	errs := make([]error, 8)
	for i := range errs {
		all.Go(func() {
			errs[i] = line(1000+i, 5000)
			for range 1000 {
				v, is := one.Get(3)
				if _, other := one.Get(4); v != "3" || !is || other || one.Len() != 2 || one.Full() || !slices.Equal(one.First(9), []int{5, 3}) {
					errs[i] = fmt.Errorf("one that many ask")
				}
			}
		})
	}
	all.Wait()
	for i, err := range errs {
		if err != nil {
			t.Errorf("%d: %v", i, err)
		}
	}
}

// TestWaysKept holds that values stand in the map by the keys that are there, and that of one that was taken nothing is kept, in the room behind the keys neither.
func TestWaysKept(t *testing.T) {
	for seed := range 40 {
		b := start[string, int](1 + seed%8)
		keys := []string{"a", "b", "c", "d", "e", "f", "g", "h", "i", "j"}
		for step := range 120 {
			act(t, b, keys, (step*step*7+step*seed+seed)%(2*len(keys)), step+1)
			if len(b.l.values) != len(b.m.all) || len(b.l.keys) != len(b.m.all) {
				t.Fatalf("seed %d: %v, %v, not %v", seed, b.l.values, b.l.keys, b.m.all)
			}
			for _, x := range b.m.all {
				if v, is := b.l.values[x.k]; !is || v != x.v {
					t.Fatalf("seed %d: %v, not %v", seed, b.l.values, b.m.all)
				}
			}
			for _, k := range b.l.keys[len(b.l.keys):cap(b.l.keys)] {
				if k != "" {
					t.Fatalf("seed %d: %q is kept", seed, k)
				}
			}
		}
	}
}

// TestWaysNoRoomAhead holds that a list that may have many keys makes no room for them ahead of their being there.
func TestWaysNoRoomAhead(t *testing.T) {
	for _, most := range mosts() {
		if l := Texts(most); cap(l.keys) > 64 {
			t.Errorf("%d: room for %d", most, cap(l.keys))
		}
	}
}
