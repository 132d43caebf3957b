package revoked

import (
	"maps"
	"math"
	"math/rand"
	"slices"
	"testing"

	"seneschal/api"
)

// most is how many serials a set has at most, last the greatest of them, written out.
const (
	most = 32
	last = 1099511627776
)

// to tells the numbers from one to another.
func to(from, until int) []int {
	var l []int
	for n := from; n <= until; n++ {
		l = append(l, n)
	}
	return l
}

// line tells grants that have these serials, and nothing else.
func line(serials ...int) []api.Grant {
	var l []api.Grant
	for _, n := range serials {
		l = append(l, api.Grant{Serial: n})
	}
	return l
}

// ends tells numbers at the edges of what a serial may be, and at the ends of what an int holds.
func ends() []int {
	return []int{math.MinInt, math.MinInt + 1, -last, math.MinInt32, -7, -1, 0, 1, 2, 3, math.MaxInt32, math.MaxInt32 + 1, last - 1, last, last + 1, 2 * last, math.MaxInt - 1, math.MaxInt}
}

// isSerial tells whether a number is one that a set may have.
func isSerial(n int) bool { return 1 <= n && n <= last }

// isSet tells whether a list is a set, as the chapter's words have it: it is what its numbers are, sorted, each once.
func isSet(l []int) bool {
	bad := slices.ContainsFunc(l, func(n int) bool { return !isSerial(n) })
	return !bad && len(l) <= most && slices.Equal(l, sorted(l))
}

// sorted tells what is in any of the lists, rising, each once.
func sorted(lists ...[]int) []int {
	in := map[int]struct{}{}
	for _, l := range lists {
		for _, n := range l {
			in[n] = struct{}{}
		}
	}
	return slices.Sorted(maps.Keys(in))
}

// both tells what two lists make, as the chapter's words have it.
func both(a, b []int) ([]int, api.Errno) {
	if !isSet(a) || !isSet(b) {
		return nil, 2
	}
	if l := sorted(a, b); len(l) <= most {
		return l, 0
	}
	return nil, 4
}

// set tells a set by chance: of up to so many serials, mostly small ones.
func set(c *rand.Rand, upTo int) []int {
	var l []int
	for range c.Intn(upTo + 1) {
		n := 1 + c.Intn(50)
		if c.Intn(8) == 0 {
			n = 1 + c.Intn(last)
		}
		l = append(l, n)
	}
	return sorted(l)
}

// list tells a list by chance: mostly a set, else one with one number that is otherwise.
func list(c *rand.Rand) []int {
	l := set(c, most+3)
	if len(l) > 0 && c.Intn(3) == 0 {
		i := c.Intn(len(l))
		switch c.Intn(3) {
		case 0:
			l[i] = ends()[c.Intn(len(ends()))]
		case 1:
			l[i] = l[c.Intn(len(l))]
		default:
			l = slices.Insert(l, i, 1+c.Intn(50))
		}
	}
	return l
}

// adds holds what Add tells.
func adds(t *testing.T, l []int, serial int, want []int, e api.Errno) {
	t.Helper()
	if got, f := Add(l, serial); !slices.Equal(got, want) || f != e {
		t.Fatalf("%v and %d: %v, error %d; not %v, error %d", l, serial, got, f, want, e)
	}
}

// unites holds what Union tells of two lists, both ways round.
func unites(t *testing.T, a, b, want []int, e api.Errno) {
	t.Helper()
	if got, f := Union(a, b); !slices.Equal(got, want) || f != e {
		t.Fatalf("%v and %v: %v, error %d; not %v, error %d", a, b, got, f, want, e)
	}
	if got, f := Union(b, a); !slices.Equal(got, want) || f != e {
		t.Fatalf("%v and %v: %v, error %d; not %v, error %d", b, a, got, f, want, e)
	}
}

// isNone holds what all calls tell of a list that is no set.
func isNone(t *testing.T, l []int) {
	t.Helper()
	if May(l) {
		t.Errorf("%v: a set", l)
	}
	for _, serial := range []int{1, 5, last, 0} {
		adds(t, l, serial, nil, api.ErrArg)
	}
	for _, other := range [][]int{nil, {5}, to(1, most), {7, 3}} {
		unites(t, l, other, nil, api.ErrArg)
	}
}

func TestP10_1Examples(t *testing.T) {
	for _, l := range [][]int{nil, {}, {1}, {last}, {1, last}, {3, 7}, {3, 5, 7}, {last - 1, last}, {2, 3, 4}, to(1, most), to(last-most+1, last)} {
		if !May(l) {
			t.Errorf("%v: no set", l)
		}
	}
	for _, l := range [][]int{{7, 3}, {3, 3}, {0}, {-1}, {0, 1}, {-3, 3}, {last + 1}, {1, last + 1}, {3, 7, 5}, {3, 7, 7}, {3, 3, 7}, {5, 3, 7}, to(1, most+1), to(last-most, last), to(0, most-1), to(last-most+2, last+1), {math.MinInt}, {math.MaxInt}, {1, math.MinInt}, {1, math.MaxInt}, to(1, 1000)} {
		isNone(t, l)
	}
}

// TestP10_1EachEdge holds it of lists of one number, and of two: of each that may be one's edge.
func TestP10_1EachEdge(t *testing.T) {
	for _, a := range ends() {
		if May([]int{a}) != isSerial(a) {
			t.Errorf("%d: not %v", a, isSerial(a))
		}
		for _, b := range ends() {
			if want := isSerial(a) && isSerial(b) && a < b; May([]int{a, b}) != want {
				t.Errorf("%d, %d: not %v", a, b, want)
			}
		}
	}
}

// TestP10_1EachPlace holds that one number that is otherwise makes a list none, wherever it stands, of whatever length.
func TestP10_1EachPlace(t *testing.T) {
	for n := 1; n <= most; n++ {
		for i := range n {
			for _, d := range []int{-last, -20 - 10*n, -11, -10, 10, 11, last} { // 10 is how far one is from the next one
				l := make([]int, n)
				for k := range l {
					l[k] = 10 + 10*k
				}
				l[i] += d
				if May(l) != isSet(l) {
					t.Errorf("%v: not %v", l, isSet(l))
				}
			}
		}
	}
}

func TestP10_1ByChance(t *testing.T) {
	c := rand.New(rand.NewSource(1))
	is := 0
	for range 20000 {
		l := list(c)
		if May(l) != isSet(l) {
			t.Fatalf("%v: not %v", l, isSet(l))
		}
		if isSet(l) {
			is++
		}
	}
	if is < 1000 || is > 19000 {
		t.Errorf("%d of 20000 are sets", is)
	}
}

func TestP10_2Examples(t *testing.T) {
	adds(t, []int{3, 7}, 5, []int{3, 5, 7}, api.OK)
	adds(t, []int{3, 7}, 7, []int{3, 7}, api.OK)
	adds(t, []int{3, 7}, 3, []int{3, 7}, api.OK)
	adds(t, []int{3, 7}, 1, []int{1, 3, 7}, api.OK)
	adds(t, []int{3, 7}, 8, []int{3, 7, 8}, api.OK)
	adds(t, []int{3, 7}, last, []int{3, 7, last}, api.OK)
	adds(t, nil, 1, []int{1}, api.OK)
	adds(t, []int{}, last, []int{last}, api.OK)
	adds(t, []int{3, 7}, 0, nil, api.ErrArg)
	adds(t, []int{3, 7}, -1, nil, api.ErrArg)
	adds(t, []int{3, 7}, last+1, nil, api.ErrArg)
	adds(t, []int{7, 3}, 5, nil, api.ErrArg)
	adds(t, []int{3, 3}, 5, nil, api.ErrArg)
	adds(t, nil, 0, nil, api.ErrArg)
	unites(t, nil, nil, nil, api.OK)
	unites(t, []int{}, nil, nil, api.OK)
	unites(t, []int{3, 7}, nil, []int{3, 7}, api.OK)
	unites(t, []int{3, 7}, []int{3, 7}, []int{3, 7}, api.OK)
	unites(t, []int{3, 7}, []int{1, 3, 5, 9}, []int{1, 3, 5, 7, 9}, api.OK)
	unites(t, []int{3, 7}, []int{8, 9}, []int{3, 7, 8, 9}, api.OK)
	unites(t, []int{3, 9}, []int{7}, []int{3, 7, 9}, api.OK)
	unites(t, []int{1, last}, []int{last - 1}, []int{1, last - 1, last}, api.OK)
	unites(t, []int{3, 7}, []int{0}, nil, api.ErrArg)
	unites(t, []int{3, 7}, []int{7, 3}, nil, api.ErrArg)
	unites(t, []int{7, 3}, []int{7, 3}, nil, api.ErrArg)
}

// TestP10_2Full holds that a set of as many as there may be is full, but for what is there; and that what is wrong counts ahead of that.
func TestP10_2Full(t *testing.T) {
	full, less := to(11, 10+most), to(11, 9+most)
	for _, n := range full {
		adds(t, full, n, full, api.OK)
	}
	for _, n := range []int{1, 10, 11 + most, last} {
		adds(t, full, n, nil, api.ErrFull)
		adds(t, less, n, sorted(less, []int{n}), api.OK)
		unites(t, full, []int{n}, nil, api.ErrFull)
		unites(t, full, sorted([]int{12, n}), nil, api.ErrFull)
	}
	for _, n := range []int{0, -1, last + 1, math.MinInt, math.MaxInt} {
		adds(t, full, n, nil, api.ErrArg)
		unites(t, full, []int{n}, nil, api.ErrArg)
	}
	unites(t, full, full, full, api.OK)
	unites(t, full, less, full, api.OK)
	unites(t, full, to(1, most), nil, api.ErrFull)
	unites(t, to(1, 16), to(17, 32), to(1, 32), api.OK)
	unites(t, to(1, 16), to(17, 33), nil, api.ErrFull)
	unites(t, to(1, 20), to(13, 32), to(1, 32), api.OK)
	unites(t, to(1, 20), to(13, 33), nil, api.ErrFull)
	over := to(1, most+1)
	adds(t, over, 1, nil, api.ErrArg)
	unites(t, over, over, nil, api.ErrArg)
	unites(t, over, full, nil, api.ErrArg)
}

// TestP10_2EachTwo holds what two sets make of all sets of few serials.
func TestP10_2EachTwo(t *testing.T) {
	var sets [][]int
	for bits := range 1 << 7 {
		var l []int
		for i := range 7 {
			if bits>>i%2 == 1 {
				l = append(l, i+1)
			}
		}
		sets = append(sets, l)
	}
	for x, a := range sets {
		for y, b := range sets {
			unites(t, a, b, sets[x|y], api.OK)
		}
		for n := range 7 {
			adds(t, a, n+1, sets[x|1<<n], api.OK)
		}
	}
}

func TestP10_2ByChance(t *testing.T) {
	c := rand.New(rand.NewSource(2))
	var met [5]int
	for range 20000 {
		a, b := list(c), list(c)
		want, e := both(a, b)
		met[e]++
		unites(t, a, b, want, e)
		serial := 1 + c.Intn(60)
		if c.Intn(4) == 0 {
			serial = ends()[c.Intn(len(ends()))]
		}
		want, e = both(a, []int{serial})
		met[e]++
		adds(t, a, serial, want, e)
	}
	if met[api.OK] < 1000 || met[api.ErrArg] < 1000 || met[api.ErrFull] < 100 {
		t.Errorf("errors so often: %v", met)
	}
}

func TestP10_3Examples(t *testing.T) {
	if !Any([]int{3, 7}, line(1, 7)) || Any([]int{3, 7}, line(1, 2)) {
		t.Errorf("Any: not as the examples have it")
	}
	for _, n := range []int{3, 7} {
		if !Has([]int{3, 7}, n) {
			t.Errorf("%d isn't there", n)
		}
	}
	for _, n := range []int{0, 1, 2, 4, 5, 6, 8, -3, -7, last, math.MinInt, math.MaxInt} {
		if Has([]int{3, 7}, n) || Has(nil, n) || Has([]int{}, n) {
			t.Errorf("%d is there", n)
		}
	}
	for _, c := range []struct {
		l    []int
		line []api.Grant
		want bool
	}{
		{[]int{3, 7}, line(3), true}, {[]int{3, 7}, line(7, 1, 2, 4), true}, {[]int{3, 7}, line(1, 2, 4, 3), true}, {[]int{3, 7}, line(1, 3, 2), true}, {[]int{3, 7}, line(3, 7), true},
		{nil, line(3), false}, {[]int{3, 7}, nil, false}, {nil, nil, false}, {[]int{}, []api.Grant{}, false}, {[]int{3, 7}, line(1, 2, 4, 5), false}, {[]int{3, 7}, line(0), false}, {nil, line(0), false},
	} {
		if Any(c.l, c.line) != c.want {
			t.Errorf("%v, %v: not %v", c.l, c.line, c.want)
		}
	}
}

// TestP10_3AnyList holds it of lists that are no sets, and of lines that are none.
func TestP10_3AnyList(t *testing.T) {
	for _, l := range [][]int{{7, 3}, {7, 7, 3}, {0, -1, 9, 2, last + 1}, {math.MaxInt, math.MinInt}, {5, 4, 3, 2, 1}, {last, 1}, to(-40, 40), {9, 1, 9, 1}} {
		for i, n := range l {
			if !Has(l, n) || !Any(l, line(n)) || !Any(l, line(1000, 1001, n)) || !Any(l, line(n, 1000, 1000, 1000, 1000, 1000)) || !Any(l[i:], line(n)) {
				t.Errorf("%v: %d isn't there", l, n)
			}
		}
		for _, n := range []int{1000, -1000, last + 2, math.MaxInt - 1} {
			if Has(l, n) || Any(l, line(n)) || Any(l, line(n, n, n, n, n)) {
				t.Errorf("%v: %d is there", l, n)
			}
		}
	}
	long := append(to(1, 5000), 9000)
	if !Has(long, 5000) || !Has(long, 9000) || Has(long, 8999) || !Any(long, line(to(8000, 9000)...)) || Any(long, line(to(5001, 8999)...)) {
		t.Errorf("of long lists: not as it should be")
	}
}

// TestP10_3SerialsAlone holds that of a grant the serial counts, and nothing else.
func TestP10_3SerialsAlone(t *testing.T) {
	for _, g := range []api.Grant{{Rights: 3, Expiry: 7, Serial: 1}, {Rights: 7, Expiry: 3, Serial: 0}, {Rights: 255, Expiry: -1, Serial: 4}} {
		if Any([]int{3, 7}, []api.Grant{g}) {
			t.Errorf("%v: revoked", g)
		}
		g.Serial = 7
		if !Any([]int{3, 7}, []api.Grant{g}) || !Any([]int{3, 7}, []api.Grant{{}, g, {}}) {
			t.Errorf("%v: not revoked", g)
		}
	}
}

func TestP10_3ByChance(t *testing.T) {
	c := rand.New(rand.NewSource(3))
	met := 0
	for range 20000 {
		l := list(c)
		serials := make([]int, c.Intn(6))
		want := false
		for i := range serials {
			serials[i] = c.Intn(60)
			is := slices.Index(l, serials[i]) >= 0
			if Has(l, serials[i]) != is {
				t.Fatalf("%v, %d: not %v", l, serials[i], is)
			}
			want = want || is
		}
		if Any(l, line(serials...)) != want {
			t.Fatalf("%v, %v: not %v", l, serials, want)
		}
		if want {
			met++
		}
	}
	if met < 1000 || met > 19000 {
		t.Errorf("%d of 20000 are revoked", met)
	}
}

// TestP10_4NeverFewer holds that what is in a set is in what Add and Union make of it, and that that is a set again.
func TestP10_4NeverFewer(t *testing.T) {
	c := rand.New(rand.NewSource(4))
	for range 5000 {
		a, b := set(c, most/2), set(c, most/2)
		serial := 1 + c.Intn(60)
		united, e := Union(a, b)
		added, f := Add(a, serial)
		if e != api.OK || f != api.OK || !May(united) || !May(added) {
			t.Fatalf("%v, %v, %d: %v, error %d; %v, error %d", a, b, serial, united, e, added, f)
		}
		for _, n := range a {
			if !Has(united, n) || !Has(added, n) || !Any(united, line(1<<30, n)) {
				t.Fatalf("%v, %v, %d: %d is gone", a, b, serial, n)
			}
		}
		for _, n := range b {
			if !Has(united, n) {
				t.Fatalf("%v, %v: %d is gone", a, b, n)
			}
		}
		if !Has(added, serial) {
			t.Fatalf("%v: %d was not added", a, serial)
		}
	}
}

// TestP10_5InWhateverOrder holds that serials make one set, in whatever order they are added, and how often; one by one, and as sets.
func TestP10_5InWhateverOrder(t *testing.T) {
	c := rand.New(rand.NewSource(5))
	for range 2000 {
		want := set(c, most)
		serials := slices.Concat(want, want[:len(want)/2], want[:len(want)/3])
		for range 3 {
			c.Shuffle(len(serials), func(i, j int) { serials[i], serials[j] = serials[j], serials[i] })
			var l []int
			for _, n := range serials {
				next, e := Add(l, n)
				if e != api.OK {
					t.Fatalf("%v and %d: error %d", l, n, e)
				}
				l = next
			}
			if !slices.Equal(l, want) {
				t.Fatalf("%v makes %v, not %v", serials, l, want)
			}
			at := c.Intn(len(serials) + 1)
			unites(t, sorted(serials[:at]), sorted(serials[at:]), want, api.OK)
		}
	}
}
