package window

import (
	"fmt"
	"math"
	"math/rand"
	"slices"
	"testing"

	"seneschal/api"
)

// reach is how many numbers a window knows of, and the errors are those of the chapter, written out.
const (
	reach             = 64
	none    api.Errno = 1
	wrong   api.Errno = 2
	already api.Errno = 180
)

// asked is what Take is handed.
type asked struct{ boot, n int }

// model is a window as the chapter's words have it: it forgets none of the numbers that came in its boot.
type model struct {
	boot, top int
	came      map[int]bool
}

// newModel tells the window as at first.
func newModel() *model { return &model{boot: -1, came: map[int]bool{}} }

// take tells what Take must.
func (m *model) take(x asked) api.Errno {
	if e := m.would(x); e != api.OK {
		return e
	}
	if x.boot > m.boot {
		*m = model{boot: x.boot, came: map[int]bool{}}
	}
	m.came[x.n] = true
	m.top = max(m.top, x.n)
	return api.OK
}

// would tells what take will.
func (m *model) would(x asked) api.Errno {
	switch {
	case x.boot < 0, x.n < 1:
		return wrong
	case x.boot > m.boot:
		return api.OK
	case x.boot < m.boot, m.top-x.n >= reach, m.came[x.n]:
		return already
	}
	return api.OK
}

// is holds what a window tells of its boot and its greatest number.
func is(t *testing.T, w *Window, boot, top int) {
	t.Helper()
	if w.Boot() != boot || w.Top() != top {
		t.Fatalf("boot %d, top %d; not %d, %d", w.Boot(), w.Top(), boot, top)
	}
}

// takes holds what Take tells, and that May told it ahead.
func takes(t *testing.T, w *Window, x asked, want api.Errno) {
	t.Helper()
	boot, top := w.Boot(), w.Top()
	if may := w.May(x.boot, x.n); may != (want == api.OK) {
		t.Fatalf("May of %v in boot %d, top %d: %v", x, boot, top, may)
	}
	if e := w.Take(x.boot, x.n); e != want {
		t.Fatalf("Take of %v in boot %d, top %d: error %d, not %d", x, boot, top, e, want)
	}
}

// takesAll holds that all of it is taken.
func takesAll(t *testing.T, w *Window, boot int, numbers ...int) {
	t.Helper()
	for _, n := range numbers {
		takes(t, w, asked{boot, n}, api.OK)
	}
}

// refusesAll holds that none of it is taken.
func refusesAll(t *testing.T, w *Window, boot int, numbers ...int) {
	t.Helper()
	for _, n := range numbers {
		takes(t, w, asked{boot, n}, already)
	}
}

// filled tells a window that took these numbers of that boot.
func filled(t *testing.T, boot int, numbers ...int) *Window {
	t.Helper()
	w := New()
	takesAll(t, w, boot, numbers...)
	return w
}

// asIs holds that a window tells of each of these what the model does, without taking any.
func asIs(t *testing.T, w *Window, m *model, probes []asked) {
	t.Helper()
	is(t, w, m.boot, m.top)
	for _, x := range probes {
		if w.May(x.boot, x.n) != (m.would(x) == api.OK) {
			t.Fatalf("May of %v in boot %d, top %d: %v", x, m.boot, m.top, w.May(x.boot, x.n))
		}
	}
	is(t, w, m.boot, m.top)
}

// pairs tells all of these numbers in all of these boots.
func pairs(boots, numbers []int) []asked {
	var l []asked
	for _, b := range boots {
		for _, n := range numbers {
			l = append(l, asked{b, n})
		}
	}
	return l
}

// span tells the numbers from the first one to the last one, as far as an int holds them.
func span(first, last int) []int {
	var l []int
	for n := first; ; n++ {
		l = append(l, n)
		if n >= last {
			return l
		}
	}
}

// around tells the numbers about the places at which a window of that greatest number begins and ends.
func around(top int) []int {
	l := span(max(top-2*reach-2, 1), top)
	if top > math.MaxInt-2*reach-2 {
		return append(l, span(top, math.MaxInt)...)
	}
	return append(l, span(top, top+2*reach+2)...)
}

// ends tells numbers at the edges of what a window, an int of 32 bits, one of 64 holds.
func ends() []int {
	return []int{1, 2, 3, 31, 32, 33, 62, 63, 64, 65, 66, 127, 128, 129, 130, 1000, math.MaxInt32 - 1, math.MaxInt32, math.MaxInt32 + 1, math.MaxUint32 - 1, math.MaxUint32, math.MaxUint32 + 1, 1<<40 + 1, 1 << 62, math.MaxInt - 129, math.MaxInt - 128, math.MaxInt - 64, math.MaxInt - 63, math.MaxInt - 62, math.MaxInt - 1, math.MaxInt}
}

// beyond tells numbers that no boot, or no number, may be.
func beyond() []int {
	return []int{math.MinInt, math.MinInt + 1, math.MinInt + 63, math.MinInt + 64, -1 << 40, math.MinInt32, -65, -64, -63, -2, -1}
}

// mixed tells numbers in some order by chance.
func mixed(c *rand.Rand, l []int) []int {
	l = slices.Clone(l)
	c.Shuffle(len(l), func(i, j int) { l[i], l[j] = l[j], l[i] })
	return l
}

// orders tells all orders of these numbers.
func orders(l []int) [][]int {
	if len(l) == 0 {
		return [][]int{nil}
	}
	var all [][]int
	for i, x := range l {
		rest := append(slices.Clone(l[:i]), l[i+1:]...)
		for _, o := range orders(rest) {
			all = append(all, append([]int{x}, o...))
		}
	}
	return all
}

// somewhere tells by chance a number about a window: one that it knows of mostly, at times one behind or ahead of it, or at an edge.
func somewhere(c *rand.Rand, top int) int {
	switch c.Intn(12) {
	case 0:
		return ends()[c.Intn(len(ends()))]
	case 1:
		return c.Intn(300) - 20
	case 2:
		return top - reach - c.Intn(4) + 2
	case 3:
		return top + c.Intn(200)
	case 4:
		return beyond()[c.Intn(len(beyond()))]
	case 5, 6, 7:
		return top + c.Intn(4)
	}
	return top - c.Intn(reach+2)
}

// line tells by chance whether a window and the model tell the same of a long line of numbers, most of them of few boots.
func line(c *rand.Rand, steps int) error {
	w, m := New(), newModel()
	for i := range steps {
		x := asked{m.boot, somewhere(c, m.top)}
		switch c.Intn(60) {
		case 0:
			x.boot += c.Intn(3)
		case 1, 2, 3:
			x.boot -= c.Intn(3)
		}
		may := w.May(x.boot, x.n)
		want := m.take(x)
		if e := w.Take(x.boot, x.n); e != want || may != (e == api.OK) || w.Boot() != m.boot || w.Top() != m.top {
			return fmt.Errorf("step %d: %v: error %d, may: %v, boot %d, top %d; not %d, %d, %d", i, x, e, may, w.Boot(), w.Top(), want, m.boot, m.top)
		}
	}
	return nil
}
