package quota

import (
	"math"
	"math/rand"
	"slices"
	"testing"

	"seneschal/api"
)

// tells holds what a call told.
func tells(t *testing.T, what string, l []Share, x Share, got []Share, f api.Errno, want []Share, e api.Errno) {
	t.Helper()
	if f != e || !slices.Equal(got, want) {
		t.Fatalf("%s %v of %v: %v, error %d; not %v, error %d", what, x, l, got, f, want, e)
	}
}

// reserves, resizes hold what those calls tell.
func reserves(t *testing.T, l []Share, x Share, want []Share, e api.Errno) {
	t.Helper()
	got, f := Reserve(l, x)
	tells(t, "Reserve", l, x, got, f, want, e)
}

func resizes(t *testing.T, l []Share, x Share, want []Share, e api.Errno) {
	t.Helper()
	got, f := Resize(l, x)
	tells(t, "Resize", l, x, got, f, want, e)
}

// has holds what Of tells.
func has(t *testing.T, l []Share, tenant int, want Share, there bool) {
	t.Helper()
	if x, ok := Of(l, tenant); x != want || ok != there {
		t.Fatalf("Of %d of %v: %v, %v; not %v, %v", tenant, l, x, ok, want, there)
	}
}

// leaves holds what Left tells.
func leaves(t *testing.T, l []Share, keys, space int) {
	t.Helper()
	if k, s := Left(l); k != keys || s != space {
		t.Fatalf("Left of %v: %d, %d; not %d, %d", l, k, s, keys, space)
	}
}

// holds holds what all calls tell against the model's.
func holds(t *testing.T, l []Share, x Share) {
	t.Helper()
	if _, may := asTable(l); May(l) != may {
		t.Fatalf("%v: May tells %v", l, !may)
	}
	want, e := modelReserve(l, x)
	reserves(t, l, x, want, e)
	want, e = modelResize(l, x)
	resizes(t, l, x, want, e)
	own, there := modelOf(l, x.Tenant)
	has(t, l, x.Tenant, own, there)
	keys, space := modelLeft(l)
	leaves(t, l, keys, space)
}

// isNone holds what all calls tell of what is no pool: also of shares that may be, and that may not.
func isNone(t *testing.T, l []Share) {
	t.Helper()
	if May(l) {
		t.Errorf("%v: a pool", l)
	}
	leaves(t, l, 0, 0)
	for tenant := range mostTenants + 2 {
		for _, n := range []int{-1, 0, 1, mostKeys, mostKeys + 1, mostSpace + 1} {
			reserves(t, l, one(tenant, n, n), nil, api.ErrArg)
			resizes(t, l, one(tenant, n, n), nil, api.ErrArg)
		}
		own, there := modelOf(l, tenant)
		has(t, l, tenant, own, there)
	}
}

func TestExamples(t *testing.T) {
	var l []Share
	reserves(t, l, one(1, 40, 100), of(1, 40, 100), api.OK)
	l = of(1, 40, 100)
	reserves(t, l, one(2, 30, 0), nil, api.ErrQuota)
	reserves(t, l, one(2, 24, 0), of(1, 40, 100, 2, 24, 0), api.OK)
	leaves(t, of(1, 40, 100, 2, 24, 0), 0, 3996)
	reserves(t, l, one(1, 1, 1), nil, api.ErrExists)
	reserves(t, l, one(9, 1, 1), nil, api.ErrArg)
	reserves(t, l, one(0, 1, 1), nil, api.ErrArg)
	resizes(t, l, one(1, 10, 4096), of(1, 10, 4096), api.OK)
	resizes(t, l, one(3, 1, 1), nil, api.ErrTenant)
}

func TestP12_1May(t *testing.T) {
	for _, l := range [][]Share{
		nil, {}, of(1, 0, 0), of(8, 0, 0), of(1, 64, 4096), of(8, 64, 4096), of(3, 64, 0), of(3, 0, 4096), of(1, 32, 2048, 2, 32, 2048), of(1, 64, 0, 8, 0, 4096), of(1, 0, 4096, 2, 64, 0),
		of(2, 1, 1, 3, 1, 1, 7, 1, 1), each(8, 8, 512), each(8, 0, 0), each(7, 9, 585), of(1, 9, 9, 2, 5, 5, 3, 9, 9), of(1, 1, 4095, 2, 63, 1), of(4, 63, 4095, 5, 1, 1),
	} {
		if !May(l) {
			t.Errorf("%v: no pool", l)
		}
	}
	for _, l := range [][]Share{
		of(0, 0, 0), of(9, 0, 0), of(-1, 0, 0), of(1, -1, 0), of(1, 0, -1), of(1, 65, 0), of(1, 0, 4097), of(2, 1, 1, 1, 1, 1), of(1, 1, 1, 1, 1, 1), of(1, 1, 1, 2, 1, 1, 1, 1, 1), of(1, 0, 0, 1, 0, 0),
		of(1, 33, 0, 2, 32, 0), of(1, 0, 2048, 2, 0, 2049), of(1, 64, 0, 2, 1, 0), of(1, 64, 4096, 8, 0, 1), of(0, 1, 1, 1, 1, 1), of(8, 1, 1, 9, 1, 1), of(1, 1, 1, 3, 1, 1, 2, 1, 1), of(3, 1, 1, 1, 1, 1, 2, 1, 1),
		of(1, 65, 0, 2, -1, 0), of(1, -1, 0, 2, 65, 0), of(1, 0, 4097, 2, 0, -1), of(1, -64, 0, 2, 64, 0, 3, 64, 0), of(1, 0, -4096, 2, 0, 4096), each(9, 1, 1), each(9, 0, 0), each(8, 9, 0), each(8, 0, 513),
		of(1, math.MaxInt, 0, 2, math.MinInt, 0), of(1, 0, math.MaxInt, 2, 0, math.MaxInt, 3, 0, 2), of(math.MaxInt, 1, 1), of(math.MinInt, 1, 1), of(1, 1, 1, math.MinInt, 1, 1), of(1, 1, 1, 1<<32+2, 1, 1), of(1, 1<<32, 0), of(1, 0, 1<<32),
	} {
		isNone(t, l)
	}
}

// TestP12_1EachEnd holds which numbers a share may have, in a list as well as handed in.
func TestP12_1EachEnd(t *testing.T) {
	for _, tenant := range ends() {
		for _, keys := range ends() {
			for _, space := range ends() {
				x := one(tenant, keys, space)
				if May([]Share{x}) != mayShare(x) {
					t.Fatalf("%v: May tells %v", x, !mayShare(x))
				}
				holds(t, nil, x)
				holds(t, []Share{x}, x)
				holds(t, of(1, 1, 1, 8, 1, 1), x)
				holds(t, []Share{one(1, 1, 1), x}, one(tenant, 2, 2))
				holds(t, []Share{x, one(8, 1, 1)}, one(tenant, 2, 2))
			}
		}
	}
}

// TestP12_1EachList holds all lists of up to four shares of few tenants, all orders among them.
func TestP12_1EachList(t *testing.T) {
	var lists func(l []Share, n int)
	lists = func(l []Share, n int) {
		for tenant := range 5 {
			holds(t, l, one(tenant, 1, 1))
		}
		if n == 0 {
			return
		}
		for tenant := range 5 {
			lists(append(slices.Clip(l), one(tenant, n, tenant)), n-1)
		}
	}
	lists(nil, 4)
}

// TestP12_1EachSubset holds each set of tenants, and each tenant that asks, with nothing left and with some.
func TestP12_1EachSubset(t *testing.T) {
	for set := range 1 << mostTenants {
		var l []Share
		for tenant := range mostTenants {
			if set>>tenant&1 == 1 {
				l = append(l, one(tenant+1, tenant+1, 8-tenant))
			}
		}
		for tenant := range mostTenants + 2 {
			for _, keys := range []int{0, 1, 28, 64} {
				holds(t, l, one(tenant, keys, 4060))
				holds(t, l, one(tenant, keys, 4061))
				holds(t, l, one(tenant, keys, 0))
			}
		}
	}
}

func TestP12_1Of(t *testing.T) {
	l := of(1, 4, 40, 3, 0, 0, 8, 60, 4000)
	has(t, l, 1, one(1, 4, 40), true)
	has(t, l, 3, one(3, 0, 0), true)
	has(t, l, 8, one(8, 60, 4000), true)
	for _, tenant := range []int{math.MinInt, -1, 0, 2, 4, 7, 9, math.MaxInt} {
		has(t, l, tenant, Share{}, false)
		has(t, nil, tenant, Share{}, false)
	}
	has(t, of(5, 1, 1, 2, 3, 3, 5, 2, 2), 5, one(5, 1, 1), true)
	has(t, of(5, 1, 1, 2, 3, 3, 5, 2, 2), 2, one(2, 3, 3), true)
	has(t, of(2, 9, 9, 2, 1, 1), 2, one(2, 9, 9), true)
	has(t, of(0, -7, 9999, 3, 1, 1), 0, one(0, -7, 9999), true)
	has(t, of(-5, 1, math.MinInt, 0, 0, 0), -5, one(-5, 1, math.MinInt), true)
	has(t, of(math.MaxInt, 1, 1, 12, 1, 2), 12, one(12, 1, 2), true)
	has(t, of(9, 1, 1, 8, 1, 1, 1, 2, 2), 1, one(1, 2, 2), true)
	has(t, of(1, 65, 0, 2, 1, 1), 2, one(2, 1, 1), true)
}

func TestP12_2Reserve(t *testing.T) {
	l := of(2, 10, 100, 5, 20, 200)
	reserves(t, l, one(1, 34, 3796), of(1, 34, 3796, 2, 10, 100, 5, 20, 200), api.OK)
	reserves(t, l, one(3, 0, 0), of(2, 10, 100, 3, 0, 0, 5, 20, 200), api.OK)
	reserves(t, l, one(8, 1, 1), of(2, 10, 100, 5, 20, 200, 8, 1, 1), api.OK)
	reserves(t, l, one(8, 35, 0), nil, api.ErrQuota)
	reserves(t, l, one(8, 0, 3797), nil, api.ErrQuota)
	reserves(t, l, one(1, 64, 4096), nil, api.ErrQuota)
	reserves(t, nil, one(1, 64, 4096), of(1, 64, 4096), api.OK)
	reserves(t, of(4, 64, 4096), one(3, 0, 0), of(3, 0, 0, 4, 64, 4096), api.OK)
	reserves(t, of(4, 64, 4096), one(5, 1, 0), nil, api.ErrQuota)
	reserves(t, of(4, 64, 4096), one(5, 0, 1), nil, api.ErrQuota)
	reserves(t, each(7, 9, 585), one(8, 1, 1), append(each(7, 9, 585), one(8, 1, 1)), api.OK)
	for tenant := range mostTenants {
		reserves(t, each(8, 8, 512), one(tenant+1, 0, 0), nil, api.ErrExists)
	}
}

// TestP12_2Order holds which error comes first.
func TestP12_2Order(t *testing.T) {
	l := of(2, 10, 100)
	reserves(t, l, one(2, 64, 4096), nil, api.ErrExists) // ahead of ErrQuota
	reserves(t, l, one(2, 65, 0), nil, api.ErrArg)       // ahead of ErrExists
	reserves(t, l, one(2, 0, 4097), nil, api.ErrArg)
	reserves(t, l, one(2, -1, 0), nil, api.ErrArg)
	reserves(t, l, one(2, 0, -1), nil, api.ErrArg)
	reserves(t, l, one(3, 65, 0), nil, api.ErrArg) // ahead of ErrQuota
	reserves(t, l, one(3, 0, 4097), nil, api.ErrArg)
	reserves(t, l, one(9, 64, 0), nil, api.ErrArg)
	reserves(t, of(2, 1, 1, 2, 1, 1), one(2, 64, 0), nil, api.ErrArg)
	reserves(t, of(2, 65, 1), one(2, 64, 0), nil, api.ErrArg)
}

func TestP12_3Resize(t *testing.T) {
	l := of(2, 10, 100, 5, 20, 200)
	resizes(t, l, one(2, 44, 3896), of(2, 44, 3896, 5, 20, 200), api.OK)
	resizes(t, l, one(5, 54, 3996), of(2, 10, 100, 5, 54, 3996), api.OK)
	resizes(t, l, one(2, 45, 0), nil, api.ErrQuota)
	resizes(t, l, one(5, 0, 3997), nil, api.ErrQuota)
	resizes(t, l, one(2, 0, 0), of(2, 0, 0, 5, 20, 200), api.OK)
	resizes(t, l, one(2, 10, 100), l, api.OK)
	resizes(t, of(1, 64, 4096), one(1, 64, 4096), of(1, 64, 4096), api.OK)
	resizes(t, of(1, 64, 0, 2, 0, 4096), one(1, 64, 1), nil, api.ErrQuota)
	resizes(t, of(1, 64, 0, 2, 0, 4096), one(2, 1, 4096), nil, api.ErrQuota)
	resizes(t, of(1, 64, 0, 2, 0, 4096), one(2, 0, 0), of(1, 64, 0, 2, 0, 0), api.OK)
	for tenant := range mostTenants {
		want := each(8, 8, 512)
		want[tenant] = one(tenant+1, 7, 500)
		resizes(t, each(8, 8, 512), one(tenant+1, 7, 500), want, api.OK)
		resizes(t, each(8, 8, 512), one(tenant+1, 9, 0), nil, api.ErrQuota)
		resizes(t, each(8, 8, 512), one(tenant+1, 0, 513), nil, api.ErrQuota)
		resizes(t, nil, one(tenant+1, 0, 0), nil, api.ErrTenant)
	}
}

// TestP12_3Order holds which error comes first.
func TestP12_3Order(t *testing.T) {
	l := of(2, 10, 100, 5, 20, 200)
	resizes(t, l, one(3, 64, 4096), nil, api.ErrTenant) // ahead of ErrQuota
	resizes(t, l, one(6, 64, 4096), nil, api.ErrTenant)
	resizes(t, l, one(1, 64, 4096), nil, api.ErrTenant)
	resizes(t, l, one(3, 65, 0), nil, api.ErrArg) // ahead of ErrTenant
	resizes(t, l, one(3, 0, 4097), nil, api.ErrArg)
	resizes(t, l, one(3, -1, 0), nil, api.ErrArg)
	resizes(t, l, one(3, 0, -1), nil, api.ErrArg)
	resizes(t, l, one(9, 1, 1), nil, api.ErrArg)
	resizes(t, l, one(0, 1, 1), nil, api.ErrArg)
	resizes(t, l, one(2, 65, 0), nil, api.ErrArg) // ahead of ErrQuota
	resizes(t, l, one(2, 0, 4097), nil, api.ErrArg)
	resizes(t, of(2, 1, 1, 1, 1, 1), one(3, 1, 1), nil, api.ErrArg)
	resizes(t, of(2, 65, 1), one(2, 64, 0), nil, api.ErrArg) // also if it would be a pool then
	resizes(t, of(2, 40, 1, 3, 40, 1), one(2, 0, 0), nil, api.ErrArg)
}

func TestP12_4Left(t *testing.T) {
	leaves(t, nil, 64, 4096)
	leaves(t, of(1, 0, 0), 64, 4096)
	leaves(t, of(1, 40, 100, 2, 24, 0), 0, 3996)
	leaves(t, of(1, 1, 0, 8, 0, 1), 63, 4095)
	leaves(t, each(8, 8, 512), 0, 0)
	leaves(t, each(8, 7, 500), 8, 96)
	leaves(t, of(3, 64, 4096), 0, 0)
	leaves(t, of(3, 64, 1), 0, 4095)
	leaves(t, of(3, 1, 4096), 63, 0)
	leaves(t, of(2, 1, 1, 1, 1, 1), 0, 0)
	leaves(t, of(1, 1, 1, 1, 1, 1), 0, 0)
	leaves(t, of(9, 1, 1), 0, 0)
	leaves(t, of(1, 65, 1), 0, 0)
	leaves(t, of(1, -1, 1), 0, 0)
	leaves(t, of(1, 64, 1, 2, 1, 1), 0, 0)
	leaves(t, of(1, 1, 4096, 2, 1, 1), 0, 0)
}

// TestP12_4EachAmount holds what is left by each amount, and that just that much may be reserved, not more.
func TestP12_4EachAmount(t *testing.T) {
	for keys := range mostKeys + 1 {
		for space := 0; space <= mostSpace; space += 37 {
			l := of(4, keys, space)
			leaves(t, l, mostKeys-keys, mostSpace-space)
			holds(t, l, one(5, mostKeys-keys, mostSpace-space))
			holds(t, l, one(5, mostKeys-keys+1, mostSpace-space))
			holds(t, l, one(3, mostKeys-keys, mostSpace-space+1))
			holds(t, l, one(4, mostKeys-keys, mostSpace-space))
		}
	}
	for space := range mostSpace + 1 {
		leaves(t, of(1, 0, space), mostKeys, mostSpace-space)
	}
}

// TestByChance holds all calls of pools, and of lists that are none, by chance.
func TestByChance(t *testing.T) {
	c := rand.New(rand.NewSource(12))
	answers := map[api.Errno]int{}
	for range 200000 {
		l, x := perhaps(c), share(c)
		switch c.Intn(8) {
		case 0:
			x = wild(c)
		case 1, 2, 3:
			keys, space := modelLeft(l)
			own, _ := modelOf(l, x.Tenant)
			x.Keys, x.Space = min(mostKeys, keys+own.Keys+c.Intn(3)/2), min(mostSpace, space+own.Space+c.Intn(3)/2)
		}
		holds(t, l, x)
		_, e := Reserve(l, x)
		_, f := Resize(l, x)
		answers[e]++
		answers[f]++
	}
	for _, e := range []api.Errno{api.OK, api.ErrArg, api.ErrTenant, api.ErrExists, api.ErrQuota} {
		if answers[e] < 5000 {
			t.Errorf("the error %d came %d times", e, answers[e])
		}
	}
}

// TestP12_5Own holds that all other tenants' shares stay as they are, whatever one tenant is told.
func TestP12_5Own(t *testing.T) {
	c := rand.New(rand.NewSource(5))
	changed := 0
	for range 20000 {
		l, x := some(c), share(c)
		x.Keys, x.Space = x.Keys/4, x.Space/4
		for _, call := range []func([]Share, Share) ([]Share, api.Errno){Reserve, Resize} {
			m, e := call(l, x)
			if e != api.OK {
				continue
			}
			changed++
			for tenant := range mostTenants + 1 {
				was, had := Of(l, tenant)
				if tenant == x.Tenant {
					was, had = x, true
				}
				has(t, m, tenant, was, had)
			}
		}
	}
	if changed < 5000 {
		t.Errorf("only %d pools changed", changed)
	}
}

// TestP12_6AllTogether holds that, call by call, what is left and all shares together are all there is.
func TestP12_6AllTogether(t *testing.T) {
	c := rand.New(rand.NewSource(6))
	var l []Share
	for n := range 50000 {
		x := wild(c)
		if c.Intn(2) == 0 {
			x.Keys, x.Space = x.Keys/8, x.Space/8
		}
		m, e := Reserve(l, x)
		if e != api.OK {
			m, e = Resize(l, x)
		}
		if e != api.OK {
			m = l
		}
		if l = m; n%100 == 0 {
			l = nil
		}
		keys, space := Left(l)
		if keys < 0 || space < 0 || !May(l) {
			t.Fatalf("%v: no pool, or less than nothing left", l)
		}
		for tenant := range mostTenants + 1 {
			own, _ := Of(l, tenant)
			keys, space = keys+own.Keys, space+own.Space
		}
		if keys != 64 || space != 4096 {
			t.Fatalf("%v: %d keys, %d bytes together", l, keys, space)
		}
	}
}
