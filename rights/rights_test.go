package rights

import (
	"math"
	"math/rand"
	"slices"
	"strings"
	"testing"

	"seneschal/api"
)

// texts are those of all rights, from 0 on, written out.
var texts = [16]string{"-", "r", "w", "rw", "l", "rl", "wl", "rwl", "a", "ra", "wa", "rwa", "la", "rla", "wla", "rwla"}

// gr tells a grant.
func gr(r uint8, expiry, serial int) api.Grant {
	return api.Grant{Rights: r, Expiry: expiry, Serial: serial}
}

// times tells a list of so many grants that are alike.
func times(n int, g api.Grant) []api.Grant { return slices.Repeat([]api.Grant{g}, n) }

// clocks tells numbers at the edges of what an expiry and a serial may be, and at the ends of what an int holds.
func clocks() []int {
	return []int{math.MinInt, math.MinInt + 1, -1 << 40, math.MinInt32, -50, -1, 0, 1, 2, 50, math.MaxInt32, 1<<40 - 1, 1 << 40, 1<<40 + 1, 1<<41 - 1, 1 << 41, math.MaxInt - 1, math.MaxInt}
}

// someGrant tells a grant by chance: mostly one that may be.
func someGrant(c *rand.Rand) api.Grant {
	g := gr(uint8(c.Intn(16)), c.Intn(4), 1+c.Intn(3))
	switch c.Intn(20) {
	case 0:
		g.Rights = uint8(c.Intn(256))
	case 1:
		g.Expiry = clocks()[c.Intn(len(clocks()))]
	case 2:
		g.Serial = clocks()[c.Intn(len(clocks()))]
	}
	return g
}

// someGrants tells a list of grants by chance: mostly a line.
func someGrants(c *rand.Rand) []api.Grant {
	var l []api.Grant
	for range c.Intn(6) {
		l = append(l, someGrant(c))
	}
	return l
}

// mayBe tells whether a grant may be, as the chapter's words have it, with numbers that are written out.
func mayBe(g api.Grant) bool {
	return g.Rights < 16 && 0 <= g.Expiry && g.Expiry <= 1099511627776 && 0 < g.Serial && g.Serial <= 1099511627776
}

// isLine tells whether these are a line.
func isLine(l []api.Grant) bool {
	bad := slices.ContainsFunc(l, func(g api.Grant) bool { return !mayBe(g) })
	return !bad && (len(l) == 1 || len(l) == 2 || len(l) == 3 || len(l) == 4)
}

// left tells what a line leaves, right by right.
func left(l []api.Grant) (r uint8, expiry int) {
	for _, one := range []uint8{1, 2, 4, 8} {
		if !slices.ContainsFunc(l, func(g api.Grant) bool { return g.Rights/one%2 == 0 }) {
			r += one
		}
	}
	var expiries []int
	for _, g := range l {
		expiries = append(expiries, g.Expiry)
	}
	return r, slices.Min(expiries)
}

// leaves holds what Leaves tells of a line.
func leaves(t *testing.T, l []api.Grant, r uint8, expiry int) {
	t.Helper()
	if got, until, e := Leaves(l); got != r || until != expiry || e != api.OK {
		t.Fatalf("%v: rights %d, expiry %d, error %d; not %d, %d", l, got, until, e, r, expiry)
	}
}

// isNone holds what all calls tell of a list of grants that is no line.
func isNone(t *testing.T, name string, l []api.Grant) {
	t.Helper()
	if Line(l) {
		t.Errorf("%s: %v: a line", name, l)
	}
	if r, expiry, e := Leaves(l); r != 0 || expiry != 0 || e != api.ErrArg {
		t.Errorf("%s: %v: rights %d, expiry %d, error %d", name, l, r, expiry, e)
	}
	most := []api.Grant{gr(15, 1<<40, 1)}
	if Within(l, most) || Within(most, l) || Within(l, l) || Within([]api.Grant{gr(0, 0, 1)}, l) {
		t.Errorf("%s: %v: within, or around", name, l)
	}
}

func TestP8_1Examples(t *testing.T) {
	for _, c := range []struct {
		r, need uint8
		want    bool
	}{
		{0, 0, true}, {15, 0, true}, {255, 0, true}, {15, 15, true}, {5, 1, true}, {5, 4, true}, {5, 5, true}, {255, 16, true}, {16, 16, true}, {240, 48, true}, {255, 255, true}, {17, 1, true},
		{0, 1, false}, {5, 2, false}, {5, 7, false}, {1, 5, false}, {4, 3, false}, {15, 16, false}, {15, 31, false}, {7, 8, false}, {16, 15, false}, {254, 255, false}, {127, 128, false},
	} {
		if Has(c.r, c.need) != c.want {
			t.Errorf("Has(%d, %d): not %v", c.r, c.need, c.want)
		}
	}
	if !Has(api.RRead|api.RAdmin, api.RAdmin) || Has(api.RRead|api.RAdmin, api.RWrite) {
		t.Errorf("not as bits")
	}
}

// TestP8_1EachNumber holds it of all numbers, bit by bit.
func TestP8_1EachNumber(t *testing.T) {
	for r := range 256 {
		for need := range 256 {
			want := true
			for i := range 8 {
				want = want && (need>>i%2 == 0 || r>>i%2 == 1)
			}
			if Has(uint8(r), uint8(need)) != want {
				t.Fatalf("Has(%d, %d): not %v", r, need, want)
			}
		}
	}
}

func TestP8_2Examples(t *testing.T) {
	for r, want := range map[uint8]string{0: "-", 1: "r", 2: "w", 4: "l", 8: "a", 5: "rl", 7: "rwl", 10: "wa", 15: "rwla", 16: "?", 17: "?", 255: "?"} {
		if got := Text(r); got != want {
			t.Errorf("Text(%d): %q, not %q", r, got, want)
		}
	}
	if r, ok := Parse("rl"); r != 5 || !ok {
		t.Errorf("Parse(`rl`): %d, %v", r, ok)
	}
	if r, ok := Parse("-"); r != 0 || !ok {
		t.Errorf("Parse(`-`): %d, %v", r, ok)
	}
	for _, s := range []string{"lr", "", "?"} {
		if r, ok := Parse(s); r != 0 || ok {
			t.Errorf("Parse(%q): %d, %v", s, r, ok)
		}
	}
}

// TestP8_2EachText holds what all numbers' texts are, and that those of rights are read as these rights.
func TestP8_2EachText(t *testing.T) {
	for r := range 256 {
		want := "?"
		if r < len(texts) {
			want = texts[r]
		}
		if got := Text(uint8(r)); got != want {
			t.Errorf("Text(%d): %q, not %q", r, got, want)
		}
	}
	for r, s := range texts {
		if got, ok := Parse(s); got != uint8(r) || !ok {
			t.Errorf("Parse(%q): %d, %v, not %d", s, got, ok, r)
		}
	}
}

// TestP8_2NoText holds that whatever isn't the text of rights is none: of few letters each text, and longer ones.
func TestP8_2NoText(t *testing.T) {
	round := []string{""}
	for range 5 {
		var next []string
		for _, s := range round {
			if got, ok := Parse(s); ok != slices.Contains(texts[:], s) || got != uint8(max(0, slices.Index(texts[:], s))) {
				t.Errorf("Parse(%q): %d, %v", s, got, ok)
			}
			for _, c := range "rwla-?R \x00" {
				next = append(next, s+string(c))
			}
		}
		round = next
	}
	for _, s := range []string{"rwlar", "rwlaa", "rwla-", "rwla ", "rwla\x00", "rwla\n", "-rwla", "rwlarwla", "-----", "5", "15", "0", "read", "\xff", "r\xff", "r\u0301", "ｒ", strings.Repeat("r", 1<<16), strings.Repeat("rwla", 64)} {
		if got, ok := Parse(s); got != 0 || ok {
			t.Errorf("Parse(%.20q): %d, %v", s, got, ok)
		}
	}
}

func TestP8_3Examples(t *testing.T) {
	for _, g := range []api.Grant{gr(0, 0, 1), gr(15, 1<<40, 1<<40), gr(7, 50, 1), gr(5, 90, 2), gr(0, 1<<40, 1), gr(15, 0, 1<<40)} {
		if !May(g) || !Line([]api.Grant{g}) {
			t.Errorf("%v: may not be", g)
		}
	}
	for _, g := range []api.Grant{{}, gr(16, 1, 1), gr(255, 1, 1), gr(1, -1, 1), gr(1, 1<<40+1, 1), gr(1, 1, 0), gr(1, 1, -1), gr(1, 1, 1<<40+1)} {
		if May(g) {
			t.Errorf("%v: may be", g)
		}
		isNone(t, "alone", []api.Grant{g})
	}
}

// TestP8_3EachEdge holds it of all rights with all expiries and serials at the edges.
func TestP8_3EachEdge(t *testing.T) {
	for r := range 256 {
		for _, expiry := range clocks() {
			for _, serial := range clocks() {
				g := gr(uint8(r), expiry, serial)
				if want := mayBe(g); May(g) != want || Line([]api.Grant{g}) != want {
					t.Fatalf("%v: may be, or a line: not %v", g, want)
				}
			}
		}
	}
}

// TestP8_3HowMany holds that a line has 1 to 4 grants.
func TestP8_3HowMany(t *testing.T) {
	for _, g := range []api.Grant{gr(0, 0, 1), gr(15, 1<<40, 1<<40), gr(5, 7, 9)} {
		for n := 1; n <= 4; n++ {
			if !Line(times(n, g)) {
				t.Errorf("%d times %v: no line", n, g)
			}
		}
		for _, n := range []int{0, 5, 6, 8, 9, 255, 256, 257, 258, 65537} {
			isNone(t, "too few, or too many", times(n, g))
		}
	}
}

// TestP8_3EachPlace holds that a grant that may not be makes a line none, at whatever place it stands.
func TestP8_3EachPlace(t *testing.T) {
	for n := 1; n <= 4; n++ {
		for at := range n {
			for _, bad := range []api.Grant{{}, gr(16, 1, 1), gr(128, 1, 1), gr(1, -1, 1), gr(1, 1<<40+1, 1), gr(1, 1, 0), gr(1, 1, math.MinInt), gr(1, 1, 1<<40+1)} {
				l := times(n, gr(15, 1, 1))
				l[at] = bad
				isNone(t, "one that may not be", l)
			}
		}
	}
}

func TestP8_4Examples(t *testing.T) {
	leaves(t, []api.Grant{gr(7, 50, 1), gr(5, 90, 2)}, 5, 50)
	leaves(t, []api.Grant{gr(5, 90, 2), gr(7, 50, 1)}, 5, 50)
	leaves(t, []api.Grant{gr(15, 1<<40, 1)}, 15, 1<<40)
	leaves(t, []api.Grant{gr(0, 0, 1<<40)}, 0, 0)
	leaves(t, []api.Grant{gr(3, 9, 1), gr(12, 8, 2)}, 0, 8)
	leaves(t, []api.Grant{gr(15, 4, 1), gr(14, 3, 1), gr(13, 2, 1), gr(11, 1, 1)}, 8, 1)
	isNone(t, "nothing", nil)
	isNone(t, "above 15", []api.Grant{gr(16, 1, 1)})
}

// TestP8_4EachRights holds it of all rights of two grants, with all expiries at the edges.
func TestP8_4EachRights(t *testing.T) {
	for a := range uint8(16) {
		for b := range uint8(16) {
			for _, x := range []int{0, 1, 50, 1<<40 - 1, 1 << 40} {
				for _, y := range []int{0, 1, 50, 1<<40 - 1, 1 << 40} {
					leaves(t, []api.Grant{gr(a, x, 1), gr(b, y, 1)}, a&b, min(x, y))
				}
			}
		}
	}
}

// TestP8_4ByChance holds, of lists by chance, whether they are lines and what they leave.
func TestP8_4ByChance(t *testing.T) {
	c := rand.New(rand.NewSource(4))
	for range 100000 {
		l := someGrants(c)
		if !isLine(l) {
			isNone(t, "by chance", l)
			continue
		}
		r, expiry := left(l)
		leaves(t, l, r, expiry)
		if !Line(l) {
			t.Fatalf("%v: no line", l)
		}
	}
}

// TestP8_4Serials holds that serials are told in order, of lists that are no lines too, and whatever they are.
func TestP8_4Serials(t *testing.T) {
	for _, want := range [][]int{nil, {1}, {1, 2}, {2, 1}, {3, 3, 3}, {0}, {-1, 0}, {9, 8, 7, 6, 5, 4}, clocks(), make([]int, 300)} {
		for _, g := range []api.Grant{gr(1, 1, 0), gr(16, 1, 0), gr(255, -1, 0)} {
			var l []api.Grant
			for _, serial := range want {
				l = append(l, gr(g.Rights, g.Expiry, serial))
			}
			if got := Serials(l); !slices.Equal(got, want) {
				t.Errorf("%v: serials %d", l, got)
			}
		}
	}
	if got := Serials([]api.Grant{gr(1, 2, 3), gr(4, 5, 6)}); !slices.Equal(got, []int{3, 6}) {
		t.Errorf("serials %d, not 3, 6", got)
	}
}

func TestP8_5Examples(t *testing.T) {
	a := []api.Grant{gr(7, 50, 1), gr(5, 90, 2)} // leaves 5, 50
	for _, c := range []struct {
		b            []api.Grant
		within, back bool
	}{
		{a, true, true},
		{[]api.Grant{gr(5, 50, 9)}, true, true},
		{[]api.Grant{gr(7, 50, 1)}, true, false},
		{[]api.Grant{gr(5, 51, 1)}, true, false},
		{[]api.Grant{gr(15, 1<<40, 1)}, true, false},
		{[]api.Grant{gr(1, 50, 1)}, false, true},
		{[]api.Grant{gr(5, 49, 1)}, false, true},
		{[]api.Grant{gr(0, 0, 1)}, false, true},
		{[]api.Grant{gr(10, 50, 1)}, false, false},
		{[]api.Grant{gr(7, 49, 1)}, false, false},
		{[]api.Grant{gr(1, 51, 1)}, false, false},
		{nil, false, false},
		{[]api.Grant{gr(31, 90, 1)}, false, false},
		{times(5, gr(5, 50, 1)), false, false},
	} {
		if Within(a, c.b) != c.within || Within(c.b, a) != c.back {
			t.Errorf("%v: not %v, and back %v", c.b, c.within, c.back)
		}
	}
}

// TestP8_5EachRights holds it of all rights of two, with an expiry that is earlier, the same, later.
func TestP8_5EachRights(t *testing.T) {
	for a := range uint8(16) {
		for b := range uint8(16) {
			for _, x := range []int{0, 49, 50, 51, 1 << 40} {
				want := a|b == b && x <= 50
				if Within([]api.Grant{gr(a, x, 2)}, []api.Grant{gr(b, 50, 1)}) != want {
					t.Fatalf("rights %d, expiry %d, in rights %d, expiry 50: not %v", a, x, b, want)
				}
			}
		}
	}
}

// TestP8_5ByChance holds it of two lists by chance, lines or none.
func TestP8_5ByChance(t *testing.T) {
	c := rand.New(rand.NewSource(5))
	for range 100000 {
		a, b := someGrants(c), someGrants(c)
		want := isLine(a) && isLine(b)
		if want {
			least, until := left(a)
			most, end := left(b)
			want = least&^most == 0 && until <= end
		}
		if Within(a, b) != want {
			t.Fatalf("%v in %v: not %v", a, b, want)
		}
	}
}

// TestP8_6NeverMore holds that a line with a grant more, at whatever place, leaves no more than without it.
func TestP8_6NeverMore(t *testing.T) {
	c := rand.New(rand.NewSource(6))
	for range 50000 {
		l := someGrants(c)
		if !isLine(l) || len(l) == 4 {
			continue
		}
		g := gr(uint8(c.Intn(16)), c.Intn(5), 1+c.Intn(3))
		r, expiry, _ := Leaves(l)
		for at := range len(l) + 1 {
			more := slices.Insert(slices.Clone(l), at, g)
			least, until, e := Leaves(more)
			if e != api.OK || least&^r != 0 || until > expiry || !Within(more, l) || !Within(more, []api.Grant{g}) {
				t.Fatalf("%v, and %v at %d: rights %d, expiry %d, error %d, of rights %d, expiry %d", l, g, at, least, until, e, r, expiry)
			}
			if Within(l, more) != (least == r && until == expiry) {
				t.Fatalf("%v, and %v at %d: within what it leaves, or not", l, g, at)
			}
		}
	}
	isNone(t, "a line of 4 with one more", append(times(4, gr(15, 9, 1)), gr(15, 9, 1)))
}

// orders tells a list in each order.
func orders(l []api.Grant) [][]api.Grant {
	if len(l) < 2 {
		return [][]api.Grant{l}
	}
	var all [][]api.Grant
	for i := range l {
		rest := slices.Delete(slices.Clone(l), i, i+1)
		for _, o := range orders(rest) {
			all = append(all, append([]api.Grant{l[i]}, o...))
		}
	}
	return all
}

// TestP8_7InWhateverOrder holds that what a list leaves is the same in each order of it, also where it is no line.
func TestP8_7InWhateverOrder(t *testing.T) {
	c := rand.New(rand.NewSource(7))
	for range 3000 {
		l, other := someGrants(c), someGrants(c)
		r, expiry, e := Leaves(l)
		for _, o := range orders(l) {
			if again, until, f := Leaves(o); again != r || until != expiry || f != e || Line(o) != Line(l) {
				t.Fatalf("%v, and %v: not the same", l, o)
			}
			if Within(o, other) != Within(l, other) || Within(other, o) != Within(other, l) || Within(o, l) != Line(l) {
				t.Fatalf("%v, and %v: not within the same", l, o)
			}
		}
	}
}
