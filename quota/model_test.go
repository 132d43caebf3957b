package quota

import (
	"math"
	"math/rand"
	"slices"

	"seneschal/api"
)

// The chapter's numbers, written out.
const (
	mostTenants = 8
	mostKeys    = 64
	mostSpace   = 4096
)

// of tells shares of tenants, keys and space in turn.
func of(numbers ...int) []Share {
	var l []Share
	for i := 0; i+2 < len(numbers); i += 3 {
		l = append(l, Share{numbers[i], numbers[i+1], numbers[i+2]})
	}
	return l
}

// one tells a tenant's share.
func one(tenant, keys, space int) Share { return Share{Tenant: tenant, Keys: keys, Space: space} }

// each tells a pool in which each of the first n tenants has so much.
func each(n, keys, space int) []Share {
	var l []Share
	for i := range n {
		l = append(l, one(i+1, keys, space))
	}
	return l
}

// mayShare tells whether a share may be one of a pool's, as the chapter's words have it.
func mayShare(x Share) bool {
	return !(x.Tenant < 1 || x.Tenant > mostTenants || x.Keys < 0 || x.Keys > mostKeys || x.Space < 0 || x.Space > mostSpace)
}

// table is a pool as a table: what each tenant has, if it has a share.
type table [mostTenants + 1]struct {
	has         bool
	keys, space int
}

// laid tells the table as shares, and whether they are no more than there is.
func (p table) laid() ([]Share, bool) {
	var l []Share
	keys, space := 0, 0
	for tenant, s := range p {
		if s.has {
			l = append(l, one(tenant, s.keys, s.space))
			keys, space = keys+s.keys, space+s.space
		}
	}
	return l, keys <= mostKeys && space <= mostSpace
}

// with tells the table with that share.
func (p table) with(x Share) table {
	p[x.Tenant].has, p[x.Tenant].keys, p[x.Tenant].space = true, x.Keys, x.Space
	return p
}

// asTable tells a pool as a table; false of what is none: of what isn't what the table of its shares tells.
func asTable(l []Share) (table, bool) {
	var p table
	for _, x := range l {
		if !mayShare(x) {
			return table{}, false
		}
		p = p.with(x)
	}
	back, fit := p.laid()
	if !fit || !slices.Equal(back, l) {
		return table{}, false
	}
	return p, true
}

// The calls of the chapter over tables.
func modelReserve(l []Share, x Share) ([]Share, api.Errno) {
	p, may := asTable(l)
	if !may || !mayShare(x) {
		return nil, 2
	}
	if p[x.Tenant].has {
		return nil, 161
	}
	return told(p.with(x))
}

func modelResize(l []Share, x Share) ([]Share, api.Errno) {
	p, may := asTable(l)
	if !may || !mayShare(x) {
		return nil, 2
	}
	if !p[x.Tenant].has {
		return nil, 160
	}
	return told(p.with(x))
}

// told tells the table as shares, and ErrQuota of too much.
func told(p table) ([]Share, api.Errno) {
	l, fit := p.laid()
	if !fit {
		return nil, 120
	}
	return l, 0
}

func modelOf(l []Share, tenant int) (Share, bool) {
	for len(l) > 0 && l[0].Tenant != tenant {
		l = l[1:]
	}
	if len(l) == 0 {
		return Share{}, false
	}
	return l[0], true
}

func modelLeft(l []Share) (keys, space int) {
	p, may := asTable(l)
	if !may {
		return 0, 0
	}
	keys, space = mostKeys, mostSpace
	for _, s := range p {
		keys, space = keys-s.keys, space-s.space
	}
	return keys, space
}

// ends tells numbers at the edges of limits, and at the ends of what an int holds.
func ends() []int {
	return []int{math.MinInt, math.MinInt + 1, math.MinInt32, -mostSpace, -mostKeys, -1, 0, 1, 2, mostTenants - 1, mostTenants, mostTenants + 1, mostKeys - 1, mostKeys, mostKeys + 1, mostSpace - 1, mostSpace, mostSpace + 1, math.MaxInt32, 1<<32 + 1, math.MaxInt - 1, math.MaxInt}
}

// amount tells by chance how much: of up to so much, often just nothing or all of it.
func amount(c *rand.Rand, upTo int) int {
	switch c.Intn(4) {
	case 0:
		return 0
	case 1:
		return upTo
	}
	return c.Intn(upTo + 1)
}

// some tells a pool by chance: at times there is nothing left of it.
func some(c *rand.Rand) []Share {
	var l []Share
	keys, space := mostKeys, mostSpace
	for tenant := range mostTenants {
		if c.Intn(2) == 0 {
			x := one(tenant+1, amount(c, keys), amount(c, space))
			if c.Intn(2) == 0 {
				x.Keys, x.Space = x.Keys/8, x.Space/8
			}
			keys, space = keys-x.Keys, space-x.Space
			l = append(l, x)
		}
	}
	return l
}

// share tells a share by chance, that may be.
func share(c *rand.Rand) Share {
	return one(1+c.Intn(mostTenants), amount(c, mostKeys), amount(c, mostSpace))
}

// perhaps tells a pool by chance, or a list in which something is otherwise.
func perhaps(c *rand.Rand) []Share {
	l := some(c)
	at := c.Intn(len(l) + 1)
	switch c.Intn(8) {
	case 0:
		l = slices.Insert(l, at, share(c))
	case 1:
		l = slices.Insert(l, at, wild(c))
	case 2:
		if at < len(l) {
			l[at] = share(c)
		}
	case 3:
		slices.Reverse(l)
	}
	return l
}

// wild tells a share by chance, that perhaps may not be.
func wild(c *rand.Rand) Share {
	n, x := ends()[c.Intn(len(ends()))], share(c)
	switch c.Intn(4) {
	case 0:
		x.Tenant = n
	case 1:
		x.Keys = n
	case 2:
		x.Space = n
	}
	return x
}
