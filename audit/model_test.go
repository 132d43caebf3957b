package audit

import (
	"crypto/sha256"
	"encoding/binary"
	"encoding/hex"
	"math"
	"math/rand"
	"slices"

	"seneschal/api"
)

// noSuch is the error of a place at which no link stands, written out.
const noSuch api.Errno = 130

// asked is what Add is handed for a link, beside the links ahead.
type asked struct {
	stamp           int
	op              uint8
	tenant, a, b, c int
}

// add tells what Add makes of it.
func add(l []api.Link, x asked) []api.Link {
	return Add(l, x.stamp, x.op, x.tenant, x.a, x.b, x.c)
}

// grown tells what Add makes of all of it, one behind the other.
func grown(all ...asked) []api.Link {
	var l []api.Link
	for _, x := range all {
		l = add(l, x)
	}
	return l
}

// hashed tells a link's tag, as another program works it out.
func hashed(x api.Link) api.Tag {
	var b []byte
	for _, n := range []int{x.N, x.Stamp, int(x.Op), x.Tenant, x.A, x.B, x.C} {
		b = binary.BigEndian.AppendUint64(b, uint64(n))
	}
	return sha256.Sum256(append(b, x.Ahead[:]...))
}

// sealed tells the link with the tag that it must have.
func sealed(x api.Link) api.Link {
	x.Self = hashed(x)
	return x
}

// linked tells the link of that number and that tag ahead.
func linked(n int, ahead api.Tag, x asked) api.Link {
	return sealed(api.Link{N: n, Stamp: x.stamp, Op: x.op, Tenant: x.tenant, A: x.a, B: x.b, C: x.c, Ahead: ahead})
}

// chained tells the chain of all of it, as the chapter's words have it.
func chained(all ...asked) []api.Link {
	var l []api.Link
	var ahead api.Tag
	for i, x := range all {
		l = append(l, linked(i+1, ahead, x))
		ahead = l[i].Self
	}
	return l
}

// modelCheck tells which place Check tells: the first at which the links part from the chain of what they tell.
func modelCheck(l []api.Link) int {
	var all []asked
	for _, x := range l {
		all = append(all, asked{x.Stamp, x.Op, x.Tenant, x.A, x.B, x.C})
	}
	for i, x := range chained(all...) {
		if l[i] != x {
			return i + 1
		}
	}
	return 0
}

// modelHead, modelAt tell what those calls tell.
func modelHead(l []api.Link) api.Tag {
	var tag api.Tag
	for _, x := range l {
		tag = x.Self
	}
	return tag
}

func modelAt(l []api.Link, n int) (api.Link, api.Errno) {
	for i, x := range l {
		if i == n-1 {
			return x, 0
		}
	}
	return api.Link{}, noSuch
}

// modelAdd tells what Add makes of links, whatever they are.
func modelAdd(l []api.Link, x asked) []api.Link {
	return append(slices.Clip(slices.Clone(l)), linked(len(l)+1, modelHead(l), x))
}

// ends tells numbers at the edges of what a number's bytes hold, and at the ends of what an int holds.
func ends() []int {
	return []int{math.MinInt, math.MinInt + 1, math.MinInt32, -256, -2, -1, 0, 1, 2, 3, 127, 128, 255, 256, 1 << 16, math.MaxInt32, 1 << 32, 1 << 40, 1<<40 + 1, 1 << 56, math.MaxInt - 1, math.MaxInt}
}

// number tells a number by chance: often one of the ends, or a small one.
func number(c *rand.Rand) int {
	switch c.Intn(4) {
	case 0:
		return ends()[c.Intn(len(ends()))]
	case 1:
		return int(c.Uint64())
	}
	return c.Intn(10)
}

// anything tells by chance what Add may be handed.
func anything(c *rand.Rand) asked {
	return asked{number(c), uint8(number(c)), number(c), number(c), number(c), number(c)}
}

// several tells so many of it.
func several(c *rand.Rand, n int) []asked {
	all := make([]asked, n)
	for i := range all {
		all[i] = anything(c)
	}
	return all
}

// tagOf tells a tag by chance.
func tagOf(c *rand.Rand) api.Tag {
	var t api.Tag
	c.Read(t[:])
	return t
}

// wild tells a link by chance, whatever its number and its tags.
func wild(c *rand.Rand) api.Link {
	x := linked(number(c), api.Tag{}, anything(c))
	if c.Intn(2) == 0 {
		x.Ahead = tagOf(c)
	}
	if c.Intn(2) == 0 {
		return sealed(x)
	}
	x.Self = tagOf(c)
	return x
}

// perhaps tells a chain by chance, or links of which something is otherwise.
func perhaps(c *rand.Rand) []api.Link {
	l := chained(several(c, c.Intn(7))...)
	at := c.Intn(len(l) + 1)
	switch c.Intn(6) {
	case 0:
		return slices.Insert(l, at, wild(c))
	case 1:
		slices.Reverse(l[at:])
	case 2:
		return l[at:]
	case 3:
		if at < len(l) {
			others := otherwise(l[at])
			l[at] = others[c.Intn(len(others))]
		}
	}
	return l
}

// otherwise tells a link of which one thing is another one: each thing, each bit of it.
func otherwise(x api.Link) []api.Link {
	var l []api.Link
	change := func(by func(y *api.Link)) {
		y := x
		by(&y)
		l = append(l, y)
	}
	for bit := range 64 {
		change(func(y *api.Link) { y.N ^= 1 << bit })
		change(func(y *api.Link) { y.Stamp ^= 1 << bit })
		change(func(y *api.Link) { y.Tenant ^= 1 << bit })
		change(func(y *api.Link) { y.A ^= 1 << bit })
		change(func(y *api.Link) { y.B ^= 1 << bit })
		change(func(y *api.Link) { y.C ^= 1 << bit })
	}
	for bit := range 8 {
		change(func(y *api.Link) { y.Op ^= 1 << bit })
	}
	for bit := range 256 {
		change(func(y *api.Link) { y.Ahead[bit/8] ^= 1 << (bit % 8) })
		change(func(y *api.Link) { y.Self[bit/8] ^= 1 << (bit % 8) })
	}
	return l
}

// tagged tells the tag of so many hexadecimal digits; one of nothing, if these are none.
func tagged(digits string) api.Tag {
	var t api.Tag
	b, _ := hex.DecodeString(digits)
	copy(t[:], b)
	return t
}
