package window

import (
	"math"
	"math/rand"
	"slices"
	"testing"

	"seneschal/api"
)

func TestP18_1Examples(t *testing.T) {
	w := New()
	for _, c := range []struct {
		x    asked
		want api.Errno
	}{{asked{0, 1}, 0}, {asked{0, 1}, 180}, {asked{0, 70}, 0}, {asked{0, 6}, 180}, {asked{0, 7}, 0}, {asked{0, 7}, 180}} {
		takes(t, w, c.x, c.want)
	}
	is(t, w, 0, 70)
	takes(t, w, asked{1, 1}, 0)
	takes(t, w, asked{0, 80}, 180)
	is(t, w, 1, 1)
	takes(t, w, asked{-1, 1}, 2)
	takes(t, w, asked{1, 0}, 2)
	is(t, w, 1, 1)
}

// TestP18_1Errors holds the errors' numbers.
func TestP18_1Errors(t *testing.T) {
	if api.ErrNil != none || api.ErrArg != wrong || api.ErrReplay != already {
		t.Errorf("%d %d %d", api.ErrNil, api.ErrArg, api.ErrReplay)
	}
}

// TestP18_1AtFirst holds that a new window is of the boot -1, has no number, and takes each number of each boot that may be.
func TestP18_1AtFirst(t *testing.T) {
	is(t, New(), -1, 0)
	for _, x := range pairs(append(ends(), 0), ends()) {
		w := New()
		takes(t, w, x, api.OK)
		is(t, w, x.boot, x.n)
		takes(t, w, x, already)
		is(t, w, x.boot, x.n)
	}
}

// TestP18_1Arguments holds that a boot below 0, a number below 1 are ErrArg, whatever the window is; the first boot, -1, too.
func TestP18_1Arguments(t *testing.T) {
	low := append(beyond(), 0)
	for _, w := range []*Window{New(), filled(t, 0, 1), filled(t, 0, 1, 64, 200), filled(t, 7, 1), filled(t, math.MaxInt, math.MaxInt)} {
		boot, top := w.Boot(), w.Top()
		for _, x := range slices.Concat(pairs(beyond(), ends()), pairs(beyond(), low), pairs(append(ends(), 0, boot), low)) {
			takes(t, w, x, wrong)
			is(t, w, boot, top)
		}
	}
}

// TestP18_1SameBoot holds, for each greatest number, what comes behind it, in it, ahead of it.
func TestP18_1SameBoot(t *testing.T) {
	for _, top := range ends() {
		for _, n := range around(top) {
			w := filled(t, 3, top)
			switch {
			case n > top:
				takes(t, w, asked{3, n}, api.OK)
				is(t, w, 3, n)
			case n == top, n < top-63:
				takes(t, w, asked{3, n}, already)
				is(t, w, 3, top)
			default:
				takes(t, w, asked{3, n}, api.OK)
				is(t, w, 3, top)
			}
			takes(t, w, asked{3, n}, already)
			takes(t, w, asked{3, top}, already)
		}
	}
}

// TestP18_1Edge holds how far behind the greatest one a number may be: less than 64.
func TestP18_1Edge(t *testing.T) {
	for top := 1; top < 400; top++ {
		w := filled(t, 0, top)
		for n := 1; n <= top-64; n++ {
			takes(t, w, asked{0, n}, already)
		}
		for n := max(1, top-63); n < top; n++ {
			takes(t, w, asked{0, n}, api.OK)
		}
		is(t, w, 0, top)
	}
}

// TestP18_1Ahead holds that a number ahead, however far, leaves those known that it reaches, and no other, and that flags that are gone round come free.
func TestP18_1Ahead(t *testing.T) {
	for gap := 1; gap <= 3*reach; gap++ {
		for _, base := range []int{1, 2, 63, 64, 65, 1000, math.MaxInt - 4*reach} {
			full := span(base, base+63)
			w, m := filled(t, 0, full...), newModel()
			for _, n := range full {
				m.take(asked{0, n})
			}
			next := base + 63 + gap
			takes(t, w, asked{0, next}, api.OK)
			m.take(asked{0, next})
			asIs(t, w, m, pairs([]int{0}, around(next)))
			for n := max(base+64, next-63); n < next; n++ {
				takes(t, w, asked{0, n}, api.OK)
				takes(t, w, asked{0, n}, already)
			}
			refusesAll(t, w, 0, full...)
		}
	}
}

// TestP18_1OtherBoot holds that a greater boot begins anew, whatever came, and that a lesser one takes nothing more.
func TestP18_1OtherBoot(t *testing.T) {
	for _, boot := range append(ends(), 0) {
		for _, numbers := range [][]int{{1}, {64}, {1, 64, 200}, span(1, 64), span(500, 640), {math.MaxInt}} {
			for _, ahead := range []int{1, 2, 100, math.MaxInt - boot} {
				if ahead < 1 || boot > math.MaxInt-ahead {
					continue
				}
				w := filled(t, boot, numbers...)
				next := boot + ahead
				takes(t, w, asked{next, 64}, api.OK)
				is(t, w, next, 64)
				for _, n := range append(ends(), numbers...) {
					takes(t, w, asked{boot, n}, already)
					takes(t, w, asked{next - 1, n}, already)
					takes(t, w, asked{0, n}, already)
				}
				takesAll(t, w, next, span(1, 63)...)
				refusesAll(t, w, next, span(1, 64)...)
				takesAll(t, w, next, span(65, 130)...)
				is(t, w, next, 130)
			}
		}
	}
}

// TestP18_1SmallerInGreaterBoot holds that the greatest number of a greater boot is its own, also if it is less than that of the boot behind it.
func TestP18_1SmallerInGreaterBoot(t *testing.T) {
	for _, top := range ends() {
		for _, n := range ends() {
			w := filled(t, 5, top)
			takes(t, w, asked{6, n}, api.OK)
			is(t, w, 6, n)
			m := newModel()
			m.take(asked{6, n})
			asIs(t, w, m, pairs([]int{0, 5, 6, 7}, slices.Concat(around(n), around(top))))
		}
	}
}

// TestP18_1AllShortLines holds windows against the model in all lines of up to four numbers at the edges, of up to three boots.
func TestP18_1AllShortLines(t *testing.T) {
	boots := []int{-1, 0, 1, 2}
	probes := pairs(boots, slices.Concat(span(-1, 4), span(60, 70), span(125, 135)))
	each := append(pairs([]int{0, 1}, []int{1, 2, 64, 65, 66, 130}), asked{2, 1}, asked{-1, 1}, asked{1, 0})
	var lines func(ahead []asked)
	lines = func(ahead []asked) {
		w, m := New(), newModel()
		for _, x := range ahead {
			takes(t, w, x, m.take(x))
		}
		asIs(t, w, m, probes)
		if len(ahead) == 4 {
			return
		}
		for _, x := range each {
			lines(append(slices.Clone(ahead), x))
		}
	}
	lines(nil)
}

// TestP18_1LongLines holds windows against the model in long lines by chance.
func TestP18_1LongLines(t *testing.T) {
	for seed := range 300 {
		if err := line(rand.New(rand.NewSource(int64(seed))), 2000); err != nil {
			t.Fatalf("seed %d: %v", seed, err)
		}
	}
}

// TestP18_1MayTakesNothing holds that May, however often it is asked, leaves a window as it was.
func TestP18_1MayTakesNothing(t *testing.T) {
	probes := pairs([]int{-1, 0, 3, 4, 5, 6, math.MaxInt}, slices.Concat(beyond(), ends(), span(0, 210)))
	for _, numbers := range [][]int{{1}, {70, 1, 7}, {1, 2, 70, 8, 200, 137}, {math.MaxInt}} {
		w, m := New(), newModel()
		asIs(t, w, m, probes)
		asIs(t, w, m, probes)
		for _, n := range numbers {
			takes(t, w, asked{4, n}, m.take(asked{4, n}))
			asIs(t, w, m, probes)
			asIs(t, w, m, probes)
		}
	}
}

// TestP18_2BootAndTop holds both behind each number that is taken, and each that isn't.
func TestP18_2BootAndTop(t *testing.T) {
	w := New()
	for _, c := range []struct{ boot, n, isBoot, isTop int }{
		{-1, 5, -1, 0}, {0, 0, -1, 0}, {0, 5, 0, 5}, {0, 3, 0, 5}, {0, 5, 0, 5}, {0, 6, 0, 6}, {0, 69, 0, 69}, {0, 5, 0, 69}, {0, 6, 0, 69}, {2, 1, 2, 1},
		{1, 100, 2, 1}, {2, 1, 2, 1}, {2, 300, 2, 300}, {2, 236, 2, 300}, {2, 237, 2, 300}, {2, 0, 2, 300}, {-1, 900, 2, 300}, {3, 299, 3, 299}, {9, math.MaxInt, 9, math.MaxInt}, {9, 1, 9, math.MaxInt}, {math.MaxInt, 1, math.MaxInt, 1}, {math.MaxInt, 2, math.MaxInt, 2},
	} {
		w.Take(c.boot, c.n)
		is(t, w, c.isBoot, c.isTop)
		is(t, w, c.isBoot, c.isTop)
	}
}

// TestP18_3Once holds that no number of a boot is taken twice, in whatever order numbers come, and however often.
func TestP18_3Once(t *testing.T) {
	for seed := range 50 {
		c := rand.New(rand.NewSource(int64(seed)))
		w := New()
		taken := map[asked]bool{}
		for range 4000 {
			x := asked{c.Intn(3), 1 + c.Intn(500)}
			if c.Intn(200) > 0 {
				x = asked{max(w.Boot(), 0), max(1, w.Top()-80+c.Intn(83))}
			}
			if w.Take(x.boot, x.n) != api.OK {
				continue
			}
			if taken[x] {
				t.Fatalf("seed %d: %v twice", seed, x)
			}
			taken[x] = true
		}
	}
}

// TestP18_3Rising holds that numbers that rise are all taken, whatever is between them, and none of them again.
func TestP18_3Rising(t *testing.T) {
	for _, step := range []int{1, 2, 31, 32, 33, 62, 63, 64, 65, 66, 127, 128, 129, 1000, 1 << 32, 1 << 40, 1 << 53} {
		for _, boot := range []int{0, 1, math.MaxInt} {
			w := New()
			var all []int
			for n := 1; len(all) < 500; n += step {
				takes(t, w, asked{boot, n}, api.OK)
				is(t, w, boot, n)
				if all = append(all, n); n > math.MaxInt-step {
					break
				}
			}
			refusesAll(t, w, boot, all...)
		}
	}
	takesAll(t, New(), 0, ends()...)
	refusesAll(t, filled(t, 0, ends()...), 0, ends()...)
}

// TestP18_4AllOrders holds that few numbers that are less than 64 apart are taken in each of their orders, each once; also if lesser ones came.
func TestP18_4AllOrders(t *testing.T) {
	for _, base := range []int{1, 2, 63, 64, 65, 1000, math.MaxInt - 63} {
		for _, o := range orders([]int{base, base + 1, base + 31, base + 32, base + 62, base + 63}) {
			for _, ahead := range [][]int{nil, {1}, {base - 1}, {base - 63}, {base - 64}, {base - 65}, span(base-100, base-1)} {
				if len(ahead) > 0 && (ahead[0] < 1 || ahead[0] >= base) {
					continue
				}
				w := filled(t, 0, ahead...)
				for i, n := range o {
					takes(t, w, asked{0, n}, api.OK)
					refusesAll(t, w, 0, o[:i+1]...)
				}
				is(t, w, 0, base+63)
			}
		}
	}
}

// TestP18_4AnyOrder holds that all 64 numbers behind one another are taken in any order, each once; those up to 63 behind a boot's first, too.
func TestP18_4AnyOrder(t *testing.T) {
	for seed := range 200 {
		c := rand.New(rand.NewSource(int64(seed)))
		for _, base := range []int{1, 2, 30, 64, 65, 1<<32 - 30, 1 << 62, math.MaxInt - 63} {
			all := span(base, base+63)
			w := New()
			takesAll(t, w, 0, mixed(c, all)...)
			refusesAll(t, w, 0, mixed(c, all)...)
			is(t, w, 0, base+63)
		}
	}
}

// TestP18_4NotMore holds that of 65 numbers behind one another the first is not taken behind the last.
func TestP18_4NotMore(t *testing.T) {
	for _, base := range []int{1, 2, 63, 64, 65, 1000, math.MaxInt - 64} {
		w := filled(t, 0, span(base+1, base+64)...)
		refusesAll(t, w, 0, base)
		w = filled(t, 0, base+64)
		refusesAll(t, w, 0, base)
		takesAll(t, w, 0, base+1)
	}
}

// TestP18_4Blocks holds that numbers that come in mixed blocks, one behind the other, are all taken.
func TestP18_4Blocks(t *testing.T) {
	for most := 1; most <= reach; most++ {
		c := rand.New(rand.NewSource(int64(most)))
		w := New()
		for first := 1; first < 600; first += most {
			takesAll(t, w, 2, mixed(c, span(first, first+most-1))...)
		}
		refusesAll(t, w, 2, span(1, 599)...)
	}
}
