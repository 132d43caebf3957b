package token

import (
	"bytes"
	"math"
	"math/rand"
	"slices"
	"sync"
	"testing"

	"seneschal/api"
)

// spoil writes over bytes and all the room behind them.
func spoil(b []byte) {
	b = b[:cap(b)]
	for i := range b {
		b[i] = ^b[i]
	}
}

// spoilLine writes over grants and all the room behind them.
func spoilLine(l []api.Grant) {
	l = l[:cap(l)]
	for i := range l {
		l[i] = gr(^l[i].Rights, ^l[i].Expiry, ^l[i].Serial)
	}
}

// TestP0_1NoPanic holds that each call ends and does not panic, whatever it is handed, and what it tells of nothing at all.
func TestP0_1NoPanic(t *testing.T) {
	c := rand.New(rand.NewSource(1))
	for range 20000 {
		x := api.Token{Tenant: int(c.Uint64()), Line: make([]api.Grant, c.Intn(7))}
		if c.Intn(2) > 0 {
			x.Tenant = c.Intn(9)
		}
		c.Read(x.Tag[:])
		for i := range x.Line {
			x.Line[i] = someGrant(c)
			if c.Intn(9) == 0 {
				x.Line[i] = gr(uint8(c.Intn(256)), int(c.Uint64()), int(c.Uint64()))
			}
		}
		key, other := some(c.Intn(70)), gr(uint8(c.Intn(256)), int(c.Uint64()), int(c.Uint64()))
		Mint(key, x.Tenant, other)
		Attenuate(x, other)
		Attenuate(x, g)
		Print(x)
		Check(key, x)
		Verify(key, x, int(c.Uint64()), uint8(c.Intn(256)))
		Same(x, copied(x))
		b := make([]byte, c.Intn(200))
		for i := range b {
			b[i] = byte(c.Intn(2) * c.Intn(6) * c.Intn(2)) // mostly small, so that counts are at times of what is there
		}
		if len(b) > 15 && c.Intn(2) > 0 {
			copy(b[8:], bytesOf(c.Intn(7)-1))
		}
		Parse(b)
	}
	for _, key := range [][]byte{nil, {}, some(64), some(1000)} {
		checks(t, "nothing", key, api.Token{}, api.ErrToken)
		if x, e := Mint(key, 0, api.Grant{}); !isNothing(x) || e != api.ErrArg {
			t.Errorf("Mint of nothing: %v, error %d", x, e)
		}
	}
	if x, e := Attenuate(api.Token{}, api.Grant{}); !isNothing(x) || e != api.ErrArg {
		t.Errorf("Attenuate of nothing: %v, error %d", x, e)
	}
	if len(Print(api.Token{})) != 0 || !Same(api.Token{}, api.Token{}) {
		t.Errorf("of nothing: not as it should be")
	}
	noToken(t, "nil", nil)
}

// TestP0_2ZeroBesideError holds that beside an error there is no part of a token: no tenant, no grant, no tag.
func TestP0_2ZeroBesideError(t *testing.T) {
	for _, bad := range badGrants() {
		if x, e := Mint(sevens(), 2, bad); !isNothing(x) || e != api.ErrArg {
			t.Errorf("Mint of %v: %v, error %d", bad, x, e)
		}
		if x, e := Attenuate(made(sevens(), 2, g), bad); !isNothing(x) || e != api.ErrArg {
			t.Errorf("Attenuate by %v: %v, error %d", bad, x, e)
		}
		noToken(t, "the last grant may not be", printed(made(sevens(), 2, g, h, bad)))
	}
	if x, e := Attenuate(made(sevens(), 2, g, g, g, g), h); !isNothing(x) || e != api.ErrFull {
		t.Errorf("Attenuate of a full line: %v, error %d", x, e)
	}
	b := printed(made(sevens(), 2, g, h))
	noToken(t, "without the tag", b[:len(b)-32])
	noToken(t, "without the tag's end", b[:len(b)-1])
	noToken(t, "with a byte more", append(b, 0))
}

// TestP0_3NothingStays holds that nothing is kept from call to call: behind calls that are refused the others answer as ahead of them.
func TestP0_3NothingStays(t *testing.T) {
	want := made(sevens(), 2, g, h)
	for range 3 {
		Mint(some(9), 9, g)
		Mint(some(9), 2, api.Grant{})
		Attenuate(made(some(9), 2, g, g, g, g), h)
		Attenuate(api.Token{}, h)
		Print(api.Token{Tenant: 7})
		Parse(printed(want)[:50])
		Parse(printed(made(some(9), 2, g, g, g, gr(16, 1, 1))))
		Verify(some(9), want, math.MaxInt, 255)
		x := minted(t, sevens(), 2, g, h)
		if back, e := Parse(Print(x)); !isSame(x, want) || e != api.OK || !isSame(back, want) || !Same(x, want) {
			t.Fatalf("behind others: %v, read as %v", x, back)
		}
		checks(t, "behind others", sevens(), x, api.OK)
		verifies(t, sevens(), x, 49, api.RRead, api.OK)
	}
}

// TestP0_4NotChanged holds that a key, a line, bytes that are handed in aren't changed, nor what stands in the room behind them, which doesn't count either.
func TestP0_4NotChanged(t *testing.T) {
	c := rand.New(rand.NewSource(4))
	for range 1000 {
		n := c.Intn(70)
		key, line := some(n+100), []api.Grant{someGrant(c), someGrant(c), someGrant(c), someGrant(c), someGrant(c), gr(255, -1, 0)}
		kept := slices.Clone(line)
		for grants := range line {
			x := made(key[:n], 2, line[:grants]...)
			x.Line = line[:grants]
			b := append(printed(x), some(50)...)
			bytesKept := bytes.Clone(b)
			more, _ := Attenuate(x, g)
			if grants > 0 && grants < 4 && !isSame(more, made(key[:n], 2, append(slices.Clone(line[:grants]), g)...)) {
				t.Fatalf("%v, and %v: %v", x, g, more)
			}
			Mint(key[:n], 2, line[0])
			Check(key[:n], x)
			Verify(key[:n], x, 5, 1)
			Same(x, more)
			if got := Print(x); len(got) > 0 && !bytes.Equal(got, printed(x)) {
				t.Fatalf("%v: %v", x, got)
			}
			for _, cut := range []int{0, 8, 16, 40, 72, 96, len(b) - 50, len(b)} {
				Parse(b[:min(cut, len(b))])
			}
			if got, e := Parse(b[:len(b)-50]); grants > 0 && grants < 5 && (e != api.OK || !isSame(got, x)) {
				t.Fatalf("%v: read as %v, error %d", x, got, e)
			}
			if !bytes.Equal(key, some(n+100)) || !slices.Equal(line, kept) || !bytes.Equal(b, bytesKept) {
				t.Fatalf("%d grants, key of %d bytes: changed", grants, n)
			}
		}
	}
}

// TestP0_4NotShared holds that a token's line, and its bytes, are new memory, with the room behind them: not what was handed in, and not another answer's.
func TestP0_4NotShared(t *testing.T) {
	for grants := 1; grants <= 4; grants++ {
		line := slices.Repeat([]api.Grant{g}, grants)
		want := made(sevens(), 2, line...)
		told := func(n int) api.Token {
			switch {
			case n == 0:
				x, _ := Parse(printed(want))
				return x
			case grants == 1:
				x, _ := Mint(sevens(), 2, g)
				return x
			}
			x, _ := Attenuate(made(sevens(), 2, line[1:]...), g)
			return x
		}
		for n := range 2 {
			x, y := told(n), told(n)
			spoilLine(x.Line)
			if !isSame(y, want) || !isSame(told(n), want) {
				t.Errorf("%d grants: a line is shared", grants)
			}
		}
		x, y := Print(want), Print(want)
		spoil(x)
		if !bytes.Equal(y, printed(want)) || !isSame(want, made(sevens(), 2, line...)) {
			t.Errorf("%d grants: bytes are shared", grants)
		}
	}
}

// TestP0_4AttenuatedNotShared holds that a longer line shares nothing with the one it is made of, nor with another one made of that, whatever room that one has.
func TestP0_4AttenuatedNotShared(t *testing.T) {
	for grants := 1; grants < 4; grants++ {
		for room := range 5 {
			line := slices.Repeat([]api.Grant{gr(15, 90, 9)}, grants)
			x := made(sevens(), 2, line...)
			x.Line = append(make([]api.Grant, 0, grants+room), line...)
			a, _ := Attenuate(x, g)
			b, _ := Attenuate(x, h)
			if !isSame(a, made(sevens(), 2, append(slices.Clone(line), g)...)) || !isSame(b, made(sevens(), 2, append(slices.Clone(line), h)...)) {
				t.Fatalf("%d grants, room %d: two that are made of one: %v, %v", grants, room, a, b)
			}
			spoilLine(a.Line)
			if !slices.Equal(x.Line, line) || !isSame(b, made(sevens(), 2, append(slices.Clone(line), h)...)) {
				t.Fatalf("%d grants, room %d: a line is shared", grants, room)
			}
			spoilLine(x.Line)
			if !isSame(b, made(sevens(), 2, append(slices.Clone(line), h)...)) {
				t.Fatalf("%d grants, room %d: a line keeps what was handed in", grants, room)
			}
		}
	}
}

// TestP0_4NotKept holds that the caller may change what it handed in behind a call: what was told stays, and the next call looks at it anew.
func TestP0_4NotKept(t *testing.T) {
	key := sevens()
	x := minted(t, key, 2, g, h)
	b := Print(x)
	back, _ := Parse(b)
	spoil(b)
	key[0]++
	if !isSame(x, made(sevens(), 2, g, h)) || !isSame(back, x) {
		t.Errorf("%v, %v: changed with what was handed in", x, back)
	}
	checks(t, "a key that was changed", key, x, api.ErrTag)
	noToken(t, "bytes that were changed", b)
	key[0]--
	checks(t, "a key that was changed back", key, x, api.OK)
	x.Line[0].Rights = 16
	checks(t, "a line that was changed", key, x, api.ErrToken)
	if len(Print(x)) != 0 || Same(x, back) {
		t.Errorf("%v: as ahead of its change", x)
	}
	x.Line[0].Rights = 3
	checks(t, "a line that was changed back", key, x, api.OK)
}

// TestP0_4NilIsEmpty holds that lists that are nil and empty ones are the same.
func TestP0_4NilIsEmpty(t *testing.T) {
	b := printed(made(sevens(), 2, g))
	for _, none := range [][]byte{nil, {}, b[:0], b[len(b):]} {
		noToken(t, "none", none)
		if x, e := Mint(none, 2, g); e != api.OK || !isSame(x, made(nil, 2, g)) || Check(none, x) != api.OK || Check(nil, x) != api.OK {
			t.Errorf("a key of none, room %d: not as nil", cap(none))
		}
	}
	line := []api.Grant{g, h}
	for _, none := range [][]api.Grant{nil, {}, line[:0], line[2:]} {
		x := api.Token{Tenant: 2, Line: none}
		checks(t, "no grants", sevens(), x, api.ErrToken)
		if _, e := Attenuate(x, g); e != api.ErrArg || len(Print(x)) != 0 || !Same(x, api.Token{Tenant: 2}) || !Same(api.Token{Tenant: 2}, x) {
			t.Errorf("no grants, room %d: not as nil", cap(none))
		}
	}
}

// TestP0_4AtOnce holds that calls that run at once don't meet in any memory.
func TestP0_4AtOnce(t *testing.T) {
	var all sync.WaitGroup
	shared := made(sevens(), 2, g)
	shared.Line = append(make([]api.Grant, 0, 9), shared.Line...)
	for i := range 8 {
		all.Go(func() {
			for n := range 100 {
				last := gr(uint8(i), 40+n, 1+i)
				x, e := Attenuate(shared, last)
				back, f := Parse(Print(x))
				if e != api.OK || f != api.OK || !isSame(x, made(sevens(), 2, g, last)) || !Same(back, x) || Verify(sevens(), x, 39, uint8(i&3)) != api.OK || Verify(sevens(), x, 40+n, 0) != api.ErrExpired {
					t.Errorf("%d, %d: not as alone", i, n)
				}
			}
		})
	}
	all.Wait()
}
