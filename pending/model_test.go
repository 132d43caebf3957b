package pending

import (
	"fmt"
	"math"
	"math/rand"
	"slices"
	"testing"
)

// pair is a key that is a struct.
type pair struct{ a, b int }

// held is a key with its value.
type held[K comparable, V any] struct {
	k K
	v V
}

// model is a list as the chapter's words have it: keys and values in the order in which they came, gone through one by one.
type model[K, V comparable] struct {
	most int
	all  []held[K, V]
}

// at tells a key's place, or -1.
func (m *model[K, V]) at(k K) int {
	for i, x := range m.all {
		if x.k == k {
			return i
		}
	}
	return -1
}

// put tells what Put must.
func (m *model[K, V]) put(k K, v V) bool {
	if i := m.at(k); i >= 0 {
		m.all[i].v = v
		return true
	}
	if m.full() {
		return false
	}
	m.all = append(m.all, held[K, V]{k, v})
	return true
}

// get tells what Get must.
func (m *model[K, V]) get(k K) (v V, there bool) {
	if i := m.at(k); i >= 0 {
		return m.all[i].v, true
	}
	return v, false
}

// take tells what Take must.
func (m *model[K, V]) take(k K) (v V, there bool) {
	v, there = m.get(k)
	if there {
		i := m.at(k)
		m.all = slices.Concat(m.all[:i], m.all[i+1:])
	}
	return v, there
}

// first tells what First must.
func (m *model[K, V]) first(n int) []K {
	var l []K
	for i, x := range m.all {
		if i < n {
			l = append(l, x.k)
		}
	}
	return l
}

// full tells what Full must.
func (m *model[K, V]) full() bool { return len(m.all) >= m.most }

// both is a list and its model.
type both[K, V comparable] struct {
	l *List[K, V]
	m *model[K, V]
}

// start tells a list of so many, and its model.
func start[K, V comparable](most int) both[K, V] {
	return both[K, V]{New[K, V](most), &model[K, V]{most: most}}
}

// put holds what Put tells.
func (b both[K, V]) put(t *testing.T, k K, v V) {
	t.Helper()
	if is, want := b.l.Put(k, v), b.m.put(k, v); is != want {
		t.Fatalf("Put of %v, %v: %v, not %v; behind it %v", k, v, is, want, b.m.all)
	}
}

// get holds what Get tells.
func (b both[K, V]) get(t *testing.T, k K) {
	t.Helper()
	v, is := b.l.Get(k)
	if want, there := b.m.get(k); v != want || is != there {
		t.Fatalf("Get of %v: %v, %v; not %v, %v, of %v", k, v, is, want, there, b.m.all)
	}
}

// take holds what Take tells.
func (b both[K, V]) take(t *testing.T, k K) {
	t.Helper()
	v, is := b.l.Take(k)
	if want, there := b.m.take(k); v != want || is != there {
		t.Fatalf("Take of %v: %v, %v; not %v, %v; behind it %v", k, v, is, want, there, b.m.all)
	}
}

// counts holds what First of so many, Len and Full tell.
func (b both[K, V]) counts(t *testing.T, n int) {
	t.Helper()
	if got, want := b.l.First(n), b.m.first(n); !sameKeys(got, want) {
		t.Fatalf("First of %d: %v, not %v", n, got, want)
	}
	if b.l.Len() != len(b.m.all) || b.l.Full() != b.m.full() {
		t.Fatalf("Len %d, Full %v, of %v", b.l.Len(), b.l.Full(), b.m.all)
	}
}

// asIs holds all that the list tells, twice, since asking changes nothing.
func (b both[K, V]) asIs(t *testing.T, keys []K) {
	t.Helper()
	for range 2 {
		for _, n := range someOf(len(b.m.all)) {
			b.counts(t, n)
		}
		for _, k := range keys {
			b.get(t, k)
		}
	}
}

// someOf tells how many keys First is asked for, of a list of so many.
func someOf(n int) []int {
	l := []int{math.MinInt, math.MinInt32, -1, n + 1, 2*n + 1, math.MaxInt32, math.MaxInt}
	for i := range n + 1 {
		l = append(l, i)
	}
	return l
}

// mosts tells how many keys lists may have: none, few, more than there will ever be.
func mosts() []int {
	return []int{math.MinInt, math.MinInt32, -2, -1, 0, 1, 2, 3, 4, 5, 8, math.MaxInt32, math.MaxInt32 + 1, math.MaxInt}
}

// sameKeys tells whether two lists have the same keys; one that isn't even itself is the same as another such one.
func sameKeys[K comparable](a, b []K) bool {
	return slices.EqualFunc(a, b, func(x, y K) bool { return x == y || x != x && y != y })
}

// act does one of so many things by a list and its model: puts or takes one of the keys, and the value tells which step it was.
func act[K comparable](t *testing.T, b both[K, int], keys []K, which, step int) {
	t.Helper()
	if which < len(keys) {
		b.put(t, keys[which], step)
	} else {
		b.take(t, keys[which-len(keys)])
	}
}

// allLines holds all lines of so many calls that put or take one of the keys; what is told in between, lines that are shorter hold.
func allLines[K comparable](t *testing.T, most int, keys []K, calls int) {
	t.Helper()
	choices := 2 * len(keys)
	lines := 1
	for range calls {
		lines *= choices
	}
	for line := range lines {
		b := start[K, int](most)
		for step := range calls {
			act(t, b, keys, line%choices, step+1)
			line /= choices
		}
		b.asIs(t, keys)
	}
}

// chance holds a long line of calls of a list of so many, with these keys.
func chance[K comparable](t *testing.T, seed, most int, keys []K) {
	t.Helper()
	c := rand.New(rand.NewSource(int64(seed)))
	b := start[K, int](most)
	for step := range 300 {
		which := c.Intn(2 * len(keys))
		if c.Intn(4) == 0 {
			which %= len(keys) // so that it's full at times
		}
		act(t, b, keys, which, step+1)
		b.get(t, keys[c.Intn(len(keys))])
		b.counts(t, c.Intn(len(keys)+3)-1)
	}
	b.asIs(t, keys)
}

// kinds tells, by the name of what their keys are, a line of calls by chance of lists of so many.
func kinds() map[string]func(t *testing.T, seed, most int) {
	x, y := 7, 7
	c, d := make(chan int), make(chan int)
	return map[string]func(t *testing.T, seed, most int){
		"numbers": of(0, 1, -1, 2, 3, 64, math.MinInt, math.MaxInt),
		"small":   of[uint8](0, 1, 2, 127, 128, 255),
		"bools":   of(true, false),
		"texts":   of("", "a", "b", "ab", "ba", "\x00", "\x00\x00", "a\x00", "ä", "\xff"),
		"structs": of(pair{}, pair{0, 1}, pair{1, 0}, pair{1, 1}, pair{-1, 1}),
		"arrays":  of([3]byte{}, [3]byte{1}, [3]byte{0, 1}, [3]byte{0, 0, 1}),
		"nothing": of(struct{}{}),
		"places":  of(&x, &y, nil),
		"chans":   of(c, d, nil),
		"floats":  of(0, math.Copysign(0, -1), 1, math.Inf(1), math.Inf(-1), math.NaN(), math.SmallestNonzeroFloat64),
		"complex": of(0, 1i, 1, complex(math.NaN(), 0)),
		"any":     of[any](nil, 0, 1, int64(1), uint8(1), "1", 1.0, pair{1, 1}, [1]int{1}, &x, &y, true, error(nil), math.NaN(), struct{}{}),
		"mixed":   of(held[any, float64]{1, 2}, held[any, float64]{"1", 2}, held[any, float64]{nil, 2}, held[any, float64]{1, math.NaN()}),
	}
}

// of tells a line of calls by chance that uses these keys.
func of[K comparable](keys ...K) func(t *testing.T, seed, most int) {
	return func(t *testing.T, seed, most int) { chance(t, seed, most, keys) }
}

// line tells by chance whether a list of numbers and texts tells what its model does.
func line(seed, steps int) error {
	c := rand.New(rand.NewSource(int64(seed)))
	most := c.Intn(12)
	l, m := Texts(most), &model[int, string]{most: most}
	for i := range steps {
		k, n := c.Intn(16), c.Intn(16)
		if v := fmt.Sprint(i); c.Intn(3) > 0 && l.Put(k, v) != m.put(k, v) {
			return fmt.Errorf("seed %d, step %d: Put of %d", seed, i, k)
		}
		k = c.Intn(16)
		if v, is := l.Get(k); v != first(m.get(k)) || is != (m.at(k) >= 0) {
			return fmt.Errorf("seed %d, step %d: Get of %d: %q, %v", seed, i, k, v, is)
		}
		k = c.Intn(16)
		there := m.at(k) >= 0
		if v, is := l.Take(k); v != first(m.take(k)) || is != there {
			return fmt.Errorf("seed %d, step %d: Take of %d: %q, %v", seed, i, k, v, is)
		}
		if !slices.Equal(l.First(n), m.first(n)) || l.Len() != len(m.all) || l.Full() != m.full() {
			return fmt.Errorf("seed %d, step %d: First of %d: %v, Len %d, Full %v", seed, i, n, l.First(n), l.Len(), l.Full())
		}
	}
	return nil
}

// first tells the first one of two.
func first(v string, _ bool) string { return v }
