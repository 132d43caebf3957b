package audit

import (
	"bytes"
	"math"
	"math/rand"
	"slices"
	"testing"

	"seneschal/api"
)

// adds holds what Add tells of links, whatever they are.
func adds(t *testing.T, l []api.Link, x asked) {
	t.Helper()
	if got, want := add(l, x), modelAdd(l, x); !slices.Equal(got, want) {
		t.Fatalf("Add %v to %v: %v, not %v", x, l, got, want)
	}
}

// hashes holds what Hash tells.
func hashes(t *testing.T, x api.Link, want api.Tag) {
	t.Helper()
	if got := Hash(x); got != want {
		t.Fatalf("Hash of %v: %x, not %x", x, got, want)
	}
}

// heads holds what Head tells.
func heads(t *testing.T, l []api.Link, want api.Tag) {
	t.Helper()
	if got := Head(l); got != want {
		t.Fatalf("Head of %v: %x, not %x", l, got, want)
	}
}

// stands holds what At tells.
func stands(t *testing.T, l []api.Link, n int, want api.Link, e api.Errno) {
	t.Helper()
	if got, f := At(l, n); got != want || f != e {
		t.Fatalf("At %d of %v: %v, error %d; not %v, error %d", n, l, got, f, want, e)
	}
}

// checks holds what Check tells.
func checks(t *testing.T, l []api.Link, want int) {
	t.Helper()
	if got := Check(l); got != want {
		t.Fatalf("Check of %v: %d, not %d", l, got, want)
	}
}

// holds holds what all calls tell against the model's.
func holds(t *testing.T, l []api.Link, n int, x asked) {
	t.Helper()
	adds(t, l, x)
	heads(t, l, modelHead(l))
	want, e := modelAt(l, n)
	stands(t, l, n, want, e)
	checks(t, l, modelCheck(l))
}

// three tells what makes a chain of three links: a tenant made, granted a token, and that revoked.
func three() []asked {
	return []asked{{1, api.OpCreate, 1, 2, 0, 0}, {5, api.OpGrant, 1, 3, 9, 1}, {1 << 40, api.OpRevoke, 8, 7, 0, 0}}
}

// known tells the tags of those links, as a third program worked them out.
func known() []api.Tag {
	return []api.Tag{
		tagged("dc9619c1467df4b2446ea861b1a0fc57c4fc1363fade9a9a35f30ce38a9bc80b"),
		tagged("43bc5a372e363e80db62e23a9c5d064a55ae2e2e085e52436eeda01fc8b08b6c"),
		tagged("8adf284a869a349c7da048a704d21ce863f6cb3eb00bda293db29d1a731b1aba"),
	}
}

func TestExamples(t *testing.T) {
	checks(t, nil, 0)
	heads(t, nil, api.Tag{})
	l := grown(three()[:2]...)
	checks(t, l, 0)
	stands(t, l, 2, l[1], api.OK)
	stands(t, l, 3, api.Link{}, noSuch)
	stands(t, l, 0, api.Link{}, noSuch)
	checks(t, l[1:], 1)
	l[0].A++
	checks(t, l, 1)
}

func TestP13_1HashKnown(t *testing.T) {
	rising := api.Tag{}
	for i := range rising {
		rising[i] = byte(i)
	}
	full := api.Tag(bytes.Repeat([]byte{0xff}, 32))
	hashes(t, api.Link{}, tagged("10eef285deef7a4b7c82b22aa53589b7833df29de3814649c772bbd5c832f365"))
	hashes(t, api.Link{N: -1, Stamp: -2, Op: 255, Tenant: -3, A: -4, B: math.MinInt, C: math.MaxInt, Ahead: rising}, tagged("35690f1b97cef84e8c88c497163e5c48ad51c0e528a7d6d03f197c4f1a1050b8"))
	hashes(t, api.Link{N: 1, Stamp: 2, Op: 3, Tenant: 4, A: 5, B: 6, C: 7, Ahead: full}, tagged("0557e104e329bbbec3603bbf861e110ca6c4f2424f632c1f6e90683e5ddba57c"))
	for i, x := range grown(three()...) {
		hashes(t, x, known()[i])
		if x.Self != known()[i] {
			t.Errorf("link %d: its tag is %x, not %x", i+1, x.Self, known()[i])
		}
	}
}

// TestP13_1HashEachEnd holds it of each number at its ends, and of links by chance.
func TestP13_1HashEachEnd(t *testing.T) {
	for _, n := range ends() {
		for _, x := range []api.Link{{N: n}, {Stamp: n}, {Op: uint8(n)}, {Tenant: n}, {A: n}, {B: n}, {C: n}, {N: n, Stamp: n, Op: uint8(n), Tenant: n, A: n, B: n, C: n}} {
			hashes(t, x, hashed(x))
		}
	}
	c := rand.New(rand.NewSource(1))
	for range 5000 {
		x := wild(c)
		hashes(t, x, hashed(x))
	}
}

// TestP13_1HashOfAllButSelf holds that each bit of a link counts, but for those of its own tag.
func TestP13_1HashOfAllButSelf(t *testing.T) {
	c := rand.New(rand.NewSource(2))
	for _, x := range []api.Link{{}, chained(three()...)[1], wild(c)} {
		tag := hashed(x)
		seen := map[api.Tag]int{}
		for _, y := range otherwise(x) {
			if y.Self == x.Self {
				seen[Hash(y)]++
			} else {
				hashes(t, y, tag)
			}
		}
		if len(seen) != 6*64+8+256 || seen[tag] != 0 {
			t.Errorf("%v: %d tags of others, %d of them its own", x, len(seen), seen[tag])
		}
	}
}

// TestP13_1AddEachField holds that each thing stands where it is asked for, and nothing else does.
func TestP13_1AddEachField(t *testing.T) {
	zero := api.Tag{}
	for _, n := range ends() {
		op := uint8(n)
		for _, c := range []struct {
			x    asked
			want api.Link
		}{
			{asked{stamp: n}, api.Link{N: 1, Stamp: n}}, {asked{op: op}, api.Link{N: 1, Op: op}}, {asked{tenant: n}, api.Link{N: 1, Tenant: n}},
			{asked{a: n}, api.Link{N: 1, A: n}}, {asked{b: n}, api.Link{N: 1, B: n}}, {asked{c: n}, api.Link{N: 1, C: n}},
		} {
			if l := add(nil, c.x); len(l) != 1 || l[0] != sealed(c.want) || l[0].Ahead != zero {
				t.Fatalf("Add of %v: %v, not %v", c.x, l, sealed(c.want))
			}
		}
	}
}

// TestP13_1AddToAnything holds that the number is that of how many links there are, and the tag ahead the last one's own, whatever the links are.
func TestP13_1AddToAnything(t *testing.T) {
	x := asked{1, 2, 3, 4, 5, 6}
	odd := api.Link{N: 7, Stamp: 9, Ahead: api.Tag{1}, Self: api.Tag{2, 3}}
	for _, l := range [][]api.Link{{odd}, {{}}, {{}, {}}, {odd, {}}, {{}, odd}, {odd, odd, odd}, {{N: -1}}, {{N: math.MaxInt, Self: api.Tag{31: 1}}}, chained(three()...)[1:], make([]api.Link, 300)} {
		adds(t, l, x)
		got := add(l, x)
		last := got[len(got)-1]
		if len(got) != len(l)+1 || last.N != len(l)+1 || last.Ahead != l[len(l)-1].Self || last.Self != hashed(last) || !slices.Equal(got[:len(l)], l) {
			t.Fatalf("Add to %v: %v", l, got)
		}
	}
	c := rand.New(rand.NewSource(3))
	for range 2000 {
		adds(t, perhaps(c), anything(c))
	}
}

func TestP13_2Head(t *testing.T) {
	l := grown(three()...)
	heads(t, l[:0], api.Tag{})
	for i, tag := range known() {
		heads(t, l[:i+1], tag)
		heads(t, l[i:], known()[2])
	}
	own := api.Tag{0: 5, 31: 6}
	heads(t, []api.Link{{Self: own, Ahead: known()[0]}}, own)
	heads(t, []api.Link{l[0], {N: 9, Self: own}}, own)
	heads(t, []api.Link{{N: 9, Self: own}, {}}, api.Tag{})
}

func TestP13_2At(t *testing.T) {
	c := rand.New(rand.NewSource(4))
	for n := range 6 {
		for _, l := range [][]api.Link{chained(several(c, n)...), slices.Repeat([]api.Link{{N: 9}}, n), append(chained(several(c, n)...), wild(c))} {
			for i, x := range l {
				stands(t, l, i+1, x, api.OK)
			}
			for _, at := range append(ends(), len(l)+1, -len(l)) {
				if at < 1 || at > len(l) {
					stands(t, l, at, api.Link{}, noSuch)
				}
			}
		}
	}
	l := []api.Link{{N: 2}, {N: 1}, {N: 5}}
	for i, x := range l {
		stands(t, l, i+1, x, api.OK) // by its place, not by its number
	}
	stands(t, l, 5, api.Link{}, noSuch)
}

// TestP13_3FirstFault holds that the first place counts, of links of which several are not as they must be.
func TestP13_3FirstFault(t *testing.T) {
	for first := range 6 {
		for second := range 6 {
			for _, change := range []func(x *api.Link){
				func(x *api.Link) { x.N = 99 },
				func(x *api.Link) { x.B++ },
				func(x *api.Link) { x.Ahead[31] ^= 1 },
				func(x *api.Link) { x.Self[0] ^= 128 },
			} {
				l := chained(several(rand.New(rand.NewSource(5)), 6)...)
				change(&l[first])
				if second > first {
					change(&l[second])
				}
				checks(t, l, first+1)
			}
		}
	}
}

// TestP13_3EachThingAlone holds of each of the things that a link must have that it is asked for, though all the others are as they must be.
func TestP13_3EachThingAlone(t *testing.T) {
	all := several(rand.New(rand.NewSource(6)), 5)
	for i := range all {
		for _, n := range append(ends(), i, i+2) {
			l := chained(all...)
			l[i].N = n
			l[i] = sealed(l[i])
			if n != i+1 {
				checks(t, l, i+1)
				checks(t, relinked(l, i+1), i+1)
			}
		}
		for bit := range 256 {
			l := chained(all...)
			l[i].Ahead[bit/8] ^= 1 << (bit % 8)
			l[i] = sealed(l[i])
			checks(t, l, i+1)
			checks(t, relinked(l, i+1), i+1)
			l = chained(all...)
			l[i].Self[bit/8] ^= 1 << (bit % 8)
			checks(t, l, i+1)
			checks(t, relinked(l, i+1), i+1)
		}
	}
}

// relinked tells the links, those from a place on with the tags that they must have behind the ones ahead.
func relinked(l []api.Link, from int) []api.Link {
	m := slices.Clone(l)
	for i := from; i < len(m); i++ {
		m[i].Ahead = m[i-1].Self
		m[i] = sealed(m[i])
	}
	return m
}

// TestP13_3NoNumberGoesOn holds that numbers count from 1, whatever the first link's is, and don't go on behind a gap.
func TestP13_3NoNumberGoesOn(t *testing.T) {
	for _, numbers := range [][]int{{0, 1, 2}, {2, 3, 4}, {1, 1, 2}, {1, 3, 4}, {1, 2, 2}, {1, 2, 4}, {3, 2, 1}, {-1, 0, 1}, {1, 1, 1}, {1, 2, 1}, {1, 1<<32 + 2, 3}, {math.MinInt, math.MinInt + 1, 3}} {
		var l []api.Link
		want := 0
		for i, n := range numbers {
			l = append(l, linked(n, modelHead(l), three()[i]))
			if n != i+1 && want == 0 {
				want = i + 1
			}
		}
		checks(t, l, want)
	}
}

// TestP13_3AnythingElseMayBe holds that stamps, ops, tenants and numbers of a chain are whatever they are.
func TestP13_3AnythingElseMayBe(t *testing.T) {
	for _, n := range ends() {
		for _, m := range ends() {
			x, y := asked{n, uint8(m), n, m, n, m}, asked{m, uint8(n), m, n, m, n}
			checks(t, chained(x, y), 0)
			checks(t, chained(x, x, x), 0)
		}
	}
	checks(t, relinked(append(chained(three()...), chained(three()...)...), 3), 4)
	checks(t, chained(make([]asked, 300)...), 0)
}

// TestP13_3AsTheWordsSay holds it of links by chance, against the chapter's words.
func TestP13_3AsTheWordsSay(t *testing.T) {
	c := rand.New(rand.NewSource(7))
	told := map[int]int{}
	for range 20000 {
		l := perhaps(c)
		checks(t, l, modelCheck(l))
		told[Check(l)]++
	}
	for place := range 7 {
		if told[place] < 100 {
			t.Errorf("place %d: told %d times", place, told[place])
		}
	}
}

// TestP13_4GrownIsRight holds that a chain with one more is one, whose beginning it is.
func TestP13_4GrownIsRight(t *testing.T) {
	c := rand.New(rand.NewSource(8))
	for range 50 {
		var l []api.Link
		for n, x := range several(c, 40) {
			more := add(l, x)
			if len(more) != n+1 || !slices.Equal(more[:n], l) || more[n] != linked(n+1, modelHead(l), x) {
				t.Fatalf("Add of %v to %v: %v", x, l, more)
			}
			checks(t, more, 0)
			heads(t, more, more[n].Self)
			stands(t, more, n+1, more[n], api.OK)
			l = more
		}
		for n := range len(l) + 1 {
			checks(t, l[:n], 0)
		}
	}
}

// TestP13_4TwoWaysOn holds that a chain may go on in two ways, which don't know of each other.
func TestP13_4TwoWaysOn(t *testing.T) {
	l := grown(three()...)
	for range 5 {
		x := add(l, asked{stamp: 1})
		y := add(l, asked{stamp: 2})
		if x[3].Stamp != 1 || y[3].Stamp != 2 || x[3].Self == y[3].Self {
			t.Fatalf("%v, %v", x, y)
		}
		checks(t, x, 0)
		checks(t, y, 0)
		checks(t, append(slices.Clone(l), x[3], y[3]), 5)
	}
}

// TestP13_5ChangedIsNone holds that no bit of a link may be otherwise.
func TestP13_5ChangedIsNone(t *testing.T) {
	l := grown(three()...)
	for i := range l {
		for _, x := range otherwise(l[i]) {
			m := slices.Clone(l)
			m[i] = x
			checks(t, m, i+1)
		}
	}
}

// TestP13_5ChangedAndSealedIsNone holds that a link ahead of others may not be otherwise either when its own tag is made to fit.
func TestP13_5ChangedAndSealedIsNone(t *testing.T) {
	l := grown(three()...)
	for i := range l {
		for _, x := range otherwise(l[i]) {
			m := slices.Clone(l)
			m[i] = sealed(x)
			want := modelCheck(m)
			checks(t, m, want)
			if m[i] != l[i] && i < len(l)-1 && want != i+1 && want != i+2 {
				t.Fatalf("%v: a chain, with %v", m, x)
			}
		}
	}
}

// TestP13_5TakenOutIsNone holds that only the last links may be taken away.
func TestP13_5TakenOutIsNone(t *testing.T) {
	l := grown(several(rand.New(rand.NewSource(9)), 8)...)
	for from := range l {
		for until := from + 1; until <= len(l); until++ {
			m := slices.Concat(l[:from], l[until:])
			if until < len(l) {
				checks(t, m, from+1)
			} else {
				checks(t, m, 0)
			}
		}
	}
}

// TestP13_5TurnedAboutIsNone holds that no two links may stand in each other's place, and none twice, though they tell the same.
func TestP13_5TurnedAboutIsNone(t *testing.T) {
	for _, all := range [][]asked{several(rand.New(rand.NewSource(10)), 7), make([]asked, 7)} {
		l := grown(all...)
		for i := range l {
			for k := range i {
				m := slices.Clone(l)
				m[i], m[k] = m[k], m[i]
				checks(t, m, k+1)
				m = slices.Clone(l)
				m[i] = m[k]
				checks(t, m, i+1)
			}
			checks(t, slices.Insert(slices.Clone(l), i+1, l[i]), i+2)
		}
	}
}
