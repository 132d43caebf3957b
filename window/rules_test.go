package window

import (
	"fmt"
	"math"
	"math/rand"
	"sync"
	"testing"

	"seneschal/api"
)

// numbers tells all numbers at edges, those that may not be, too.
func numbers() []int { return append(append(beyond(), 0), ends()...) }

// TestP0_1NobodyMade holds what each call tells of a window that is nil, or that nobody made, and that no call makes it one.
func TestP0_1NobodyMade(t *testing.T) {
	var zero Window
	for name, w := range map[string]*Window{"nil": nil, "new(Window)": new(Window), "&Window{}": {}, "a variable": &zero} {
		for range 2 {
			for _, x := range pairs(numbers(), numbers()) {
				if e := w.Take(x.boot, x.n); e != none {
					t.Fatalf("%s: Take of %v: error %d", name, x, e)
				}
				if w.May(x.boot, x.n) {
					t.Fatalf("%s: May of %v", name, x)
				}
				if w.Boot() != 0 || w.Top() != 0 {
					t.Fatalf("%s: boot %d, top %d", name, w.Boot(), w.Top())
				}
			}
		}
	}
}

// TestP0_1NoPanic holds that each call ends and does not panic, whatever it is handed, and whatever came.
func TestP0_1NoPanic(t *testing.T) {
	all := pairs(numbers(), numbers())
	for seed := range 20 {
		c := rand.New(rand.NewSource(int64(seed)))
		w := New()
		for range 3000 {
			x := all[c.Intn(len(all))]
			w.May(x.boot, x.n)
			w.Take(x.boot, x.n)
			w.May(max(0, w.Boot()), x.n)
			w.Take(max(0, w.Boot()), x.n)
		}
	}
}

// TestP0_2FirstError holds that no window is ahead of arguments that are wrong, and those of numbers that aren't taken.
func TestP0_2FirstError(t *testing.T) {
	for _, x := range pairs(beyond(), numbers()) {
		if e := (*Window)(nil).Take(x.boot, x.n); e != none {
			t.Fatalf("nil: %v: error %d", x, e)
		}
		if e := new(Window).Take(x.n, x.boot); e != none {
			t.Fatalf("nobody's: %v: error %d", x, e)
		}
	}
	w := filled(t, 3, 200)
	takes(t, w, asked{-1, 200}, wrong)
	takes(t, w, asked{-1, -1}, wrong)
	takes(t, w, asked{3, 0}, wrong)
	takes(t, w, asked{2, 0}, wrong)
	takes(t, w, asked{2, 1}, already)
	is(t, w, 3, 200)
}

// TestP0_3Refused holds that what is refused changes nothing that any later number could tell.
func TestP0_3Refused(t *testing.T) {
	all := pairs(numbers(), numbers())
	for seed := range 20 {
		c := rand.New(rand.NewSource(int64(seed)))
		w, m := New(), newModel()
		for range 40 {
			x := asked{max(0, m.boot) + c.Intn(20)/19, max(1, somewhere(c, m.top))}
			takes(t, w, x, m.take(x))
			held := *w
			for _, y := range all {
				if e := m.would(y); e != api.OK {
					takes(t, w, y, e)
				}
			}
			if *w != held {
				t.Fatalf("seed %d: behind %v: %v, not %v", seed, x, *w, held)
			}
			asIs(t, w, m, pairs([]int{m.boot - 1, m.boot, m.boot + 1}, around(max(1, m.top))))
		}
	}
}

// TestP0_4Apart holds that windows have nothing of one another.
func TestP0_4Apart(t *testing.T) {
	x, y, z := New(), New(), New()
	if x == nil || x == y || y == z {
		t.Fatal("New: the same one, or none")
	}
	takesAll(t, x, 4, span(1, 70)...)
	is(t, y, -1, 0)
	takesAll(t, y, 0, 3, 66)
	takesAll(t, y, 0, span(4, 65)...)
	is(t, x, 4, 70)
	is(t, y, 0, 66)
	is(t, z, -1, 0)
	refusesAll(t, x, 4, span(1, 70)...)
	takesAll(t, z, 0, span(1, 200)...)
	is(t, New(), -1, 0)
}

// TestP0_4AtOnce holds that windows that run at once don't meet in any memory, and that one may be asked by many, while none of them takes a number.
func TestP0_4AtOnce(t *testing.T) {
	var all sync.WaitGroup
	one := filled(t, 2, 70, 9)
	errs := make([]error, 8)
	for i := range errs {
		all.Go(func() {
			errs[i] = line(rand.New(rand.NewSource(int64(1000+i))), 5000)
			for range 1000 {
				if one.May(2, 9) || !one.May(2, 8) || one.Boot() != 2 || one.Top() != 70 {
					errs[i] = fmt.Errorf("one that many ask")
				}
			}
		})
	}
	all.Wait()
	for i, err := range errs {
		if err != nil {
			t.Errorf("%d: %v", i, err)
		}
	}
}

// TestWaysGoneRound holds that a number's flag stands at its place modulo 64, and that no other flag is set.
func TestWaysGoneRound(t *testing.T) {
	if n := len(New().came); n != reach {
		t.Fatalf("%d flags", n)
	}
	for seed := range 30 {
		c := rand.New(rand.NewSource(int64(seed)))
		w, m := New(), newModel()
		for range 400 {
			x := asked{max(0, m.boot) + c.Intn(40)/39, max(1, somewhere(c, m.top))}
			if x.n > math.MaxInt/2 {
				continue // there the window would stay
			}
			takes(t, w, x, m.take(x))
			flags := New().came
			for n := max(1, m.top-63); n <= m.top; n++ {
				flags[n%reach] = m.came[n]
			}
			if w.came != flags {
				t.Fatalf("seed %d: behind %v: flags %v, not %v", seed, x, w.came, flags)
			}
		}
	}
}

// TestWaysCompared holds that windows in which the same numbers came are the same, in whatever order they did.
func TestWaysCompared(t *testing.T) {
	for seed := range 100 {
		c := rand.New(rand.NewSource(int64(seed)))
		for _, base := range []int{1, 2, 64, 1000, math.MaxInt - 63} {
			some := mixed(c, span(base, base+63))[:1+c.Intn(reach)]
			x, y := filled(t, 1, some...), filled(t, 1, mixed(c, some)...)
			if *x != *y {
				t.Fatalf("seed %d: %v: %v, %v", seed, some, *x, *y)
			}
			again := filled(t, 0, span(1, 200)...)
			takesAll(t, again, 1, some...)
			if *again != *x {
				t.Fatalf("seed %d: behind another boot %v: %v, %v", seed, some, *again, *x)
			}
		}
	}
}
