package disk

import (
	"bytes"
	"math"
	"slices"
	"sync"
	"testing"

	"seneschal/api"
)

// TestP0_1NobodyMade holds what each call tells of a disk that is nil, or that nobody made, and that no call makes it one.
func TestP0_1NobodyMade(t *testing.T) {
	var none Disk
	for name, d := range map[string]*Disk{"nil": nil, "new(Disk)": new(Disk), "&Disk{}": {}, "a variable": &none} {
		for range 2 {
			for _, b := range [][]byte{nil, {}, {1}, some(100)} {
				isErr(t, d.Write(b), api.ErrNil)
			}
			for _, n := range []int{0, 1, -1, math.MinInt, math.MaxInt} {
				isErr(t, d.Crash(n, 0), api.ErrNil)
				isErr(t, d.Crash(0, n), api.ErrNil)
				isErr(t, d.Cut(n), api.ErrNil)
			}
			isErr(t, d.Sync(), api.ErrNil)
			isErr(t, d.Start(), api.ErrNil)
			if d.Bytes() != nil || d.Synced() != 0 || d.Writes() != 0 || d.Up() {
				t.Errorf("%s: %v, %d synced, %d writes, up: %v", name, d.Bytes(), d.Synced(), d.Writes(), d.Up())
			}
		}
	}
}

// TestP0_1NoPanic holds that each call ends and does not panic, whatever it is handed.
func TestP0_1NoPanic(t *testing.T) {
	odd := []int{math.MinInt, -1, 0, 1, 2, 3, math.MaxInt - 1, math.MaxInt}
	for _, x := range odd {
		for _, y := range odd {
			for _, sizes := range [][]int{nil, {0}, {1}, {0, 0}, {2, 0, 1}} {
				d := with(t, 1, sizes...)
				d.Cut(x)
				d.Crash(x, y)
				d.Crash(y, x)
				d.Cut(y)
				d.Start()
				d.Write(nil)
				d.Cut(y)
				d.Sync()
			}
		}
	}
}

// TestP0_2FirstError holds that a disk that is down says so ahead of a number that is wrong.
func TestP0_2FirstError(t *testing.T) {
	d := with(t, 2)
	ok(t, d.Crash(0, 0))
	isErr(t, d.Crash(-1, -1), api.ErrDown)
	isErr(t, d.Cut(-1), api.ErrDown)
	isErr(t, d.Cut(3), api.ErrDown)
	isErr(t, (*Disk)(nil).Crash(-1, -1), api.ErrNil)
	isErr(t, (*Disk)(nil).Cut(-1), api.ErrNil)
	isErr(t, new(Disk).Crash(-1, -1), api.ErrNil)
	isErr(t, new(Disk).Cut(3), api.ErrNil)
}

// TestP0_3Refused holds that calls that are refused change nothing, that a crash later on could tell neither.
func TestP0_3Refused(t *testing.T) {
	for _, sizes := range sizeLists() {
		n := 2 + sum(sizes)
		for keep := range len(sizes) + 2 {
			for torn := range 4 {
				d := with(t, 2, sizes...)
				isErr(t, d.Start(), api.ErrArg)
				isErr(t, d.Crash(-1, 0), api.ErrArg)
				isErr(t, d.Crash(1, -1), api.ErrArg)
				isErr(t, d.Cut(-1), api.ErrArg)
				isErr(t, d.Cut(n+1), api.ErrArg)
				is(t, d, places(0, n), 2, len(sizes), true)
				ok(t, d.Crash(keep, torn))
				left := 2 + leftOf(sizes, keep, torn)
				isErr(t, d.Write([]byte{9}), api.ErrDown)
				isErr(t, d.Sync(), api.ErrDown)
				isErr(t, d.Cut(0), api.ErrDown)
				isErr(t, d.Crash(0, 0), api.ErrDown)
				is(t, d, places(0, left), left, 0, false)
				ok(t, d.Start())
				is(t, d, places(0, left), left, 0, true)
			}
		}
	}
}

// spoil writes over bytes and all the room behind them.
func spoil(b []byte) {
	b = b[:cap(b)]
	for i := range b {
		b[i] = ^b[i]
	}
}

// TestP0_4NotChanged holds that bytes that are written aren't changed, the room behind them neither, by whatever comes later.
func TestP0_4NotChanged(t *testing.T) {
	m := some(300)
	for n := 1; n < 100; n++ {
		d := New()
		ok(t, d.Write(m[:n]))
		ok(t, d.Write(m[:2*n]))
		ok(t, d.Sync())
		ok(t, d.Write(m[n:2*n]))
		ok(t, d.Cut(n+1))
		ok(t, d.Write([]byte{1, 2, 3}))
		ok(t, d.Write(m[:n]))
		ok(t, d.Write([]byte{4}))
		ok(t, d.Crash(1, n/2))
		ok(t, d.Start())
		ok(t, d.Write([]byte{5, 6, 7}))
		if !bytes.Equal(m, some(300)) {
			t.Fatalf("%d bytes: changed", n)
		}
	}
}

// TestP0_4NotKept holds that a disk has its bytes for itself, whoever changes those that were handed in later on.
func TestP0_4NotKept(t *testing.T) {
	for _, n := range []int{1, 2, 3, 64, 1000, api.MaxBytes} {
		d := New()
		want := slices.Concat(some(n), some(n+1), some(n+2))
		for i := range 3 {
			m := some(n + i)
			ok(t, d.Write(m))
			spoil(m)
			if i == 0 {
				ok(t, d.Sync())
			}
		}
		is(t, d, want, n, 2, true)
		ok(t, d.Crash(1, n))
		is(t, d, want[:3*n+1], 3*n+1, 0, false)
	}
}

// TestP0_4NotShared holds that what Bytes tells is new memory, with the room behind it, whether bytes are synced, written, left by a crash, or cut.
func TestP0_4NotShared(t *testing.T) {
	held := func(d *Disk, n int) {
		t.Helper()
		x, y := d.Bytes(), d.Bytes()
		spoil(x)
		_ = append(x, 0xee, 0xee)
		if !bytes.Equal(y, places(0, n)) || !bytes.Equal(d.Bytes(), places(0, n)) {
			t.Fatalf("%d bytes: shared", n)
		}
	}
	for _, sizes := range sizeLists() {
		for _, synced := range []int{0, 1, 40} {
			n := synced + sum(sizes)
			d := with(t, synced, sizes...)
			held(d, n)
			ahead := d.Bytes()
			ok(t, d.Write(places(n, n+3)))
			held(d, n+3)
			ok(t, d.Crash(len(sizes), 2))
			held(d, n+2)
			ok(t, d.Start())
			ok(t, d.Write(places(n+2, n+9)))
			ok(t, d.Sync())
			held(d, n+9)
			ok(t, d.Cut(n/2))
			held(d, n/2)
			ok(t, d.Write([]byte{250, 251}))
			ok(t, d.Sync())
			if !bytes.Equal(ahead, places(0, n)) {
				t.Fatalf("%d bytes: what was told changes later on", n)
			}
		}
	}
}

// TestP0_4NilIsEmpty holds that bytes that are nil and empty ones are the same.
func TestP0_4NilIsEmpty(t *testing.T) {
	for _, none := range [][]byte{nil, {}, some(9)[:0], some(9)[9:]} {
		d := with(t, 2)
		ok(t, d.Write(none))
		is(t, d, places(0, 2), 2, 1, true)
		ok(t, d.Write(places(2, 5)))
		is(t, d, places(0, 5), 2, 2, true)
		ok(t, d.Crash(1, 1))
		is(t, d, places(0, 3), 3, 0, false)
	}
}

// TestP0_4Apart holds that disks don't meet in any memory, also such as run at once.
func TestP0_4Apart(t *testing.T) {
	var all sync.WaitGroup
	m := some(50)
	for i := range 8 {
		all.Go(func() {
			for range 200 {
				d := New()
				for j := range 5 {
					d.Write(m[i : i+j])
				}
				d.Sync()
				d.Write(m[i:])
				d.Crash(0, i)
				if want := slices.Concat(m[i:i+1], m[i:i+2], m[i:i+3], m[i:i+4], m[i:i+i]); !bytes.Equal(d.Bytes(), want) || d.Synced() != len(want) {
					t.Errorf("%d: %v, not %v", i, d.Bytes(), want)
				}
			}
		})
	}
	all.Wait()
}

// TestWaysFixedEnds holds that what stands as a write has no room behind it, and that what a crash leaves doesn't come to stand upon the writes.
func TestWaysFixedEnds(t *testing.T) {
	d := with(t, 2, 0, 1, 3, 5, 8, 33)
	for i, w := range d.writes {
		if len(w) != cap(w) {
			t.Errorf("write %d: %d bytes, room for %d", i, len(w), cap(w))
		}
	}
	writes := slices.Clone(d.writes)
	for keep := range writes {
		for _, w := range left(d.writes, keep, 2) {
			if len(w) != cap(w) {
				t.Errorf("%d kept: %d bytes, room for %d", keep, len(w), cap(w))
			}
		}
		if !slices.EqualFunc(d.writes, writes, bytes.Equal) {
			t.Fatalf("%d kept: the writes are %v, not %v", keep, d.writes, writes)
		}
	}
}
