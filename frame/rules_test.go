package frame

import (
	"bytes"
	"math/rand"
	"slices"
	"sync"
	"testing"

	"seneschal/api"
)

// TestP0_1NoPanic holds that each call ends and does not panic, on whatever bytes, and what it tells of nothing at all.
func TestP0_1NoPanic(t *testing.T) {
	c := rand.New(rand.NewSource(1))
	for range 100000 {
		b := make([]byte, c.Intn(40))
		for i := range b {
			b[i] = byte(c.Intn(2) * c.Intn(20) * c.Intn(2)) // mostly small, so that lengths are at times of what is there
		}
		Seal(b)
		Next(b)
		All(b)
	}
	if f, e := Seal(nil); e != api.OK || !bytes.Equal(f, framed(nil)) {
		t.Errorf("Seal of nil: %v, error %d", f, e)
	}
	isNone(t, "nil", nil)
}

// TestP0_2ZeroBesideError holds that beside an error there is no part of a frame, nor of a payload.
func TestP0_2ZeroBesideError(t *testing.T) {
	if f, e := Seal(make([]byte, api.MaxBytes+1)); f != nil || e != api.ErrLong {
		t.Errorf("Seal of one too long: %d bytes, error %d", len(f), e)
	}
	f := framed(some(9))
	f[len(f)-1] ^= 1
	for _, b := range [][]byte{nil, f, f[:len(f)-1], f[:5], framed(some(api.MaxBytes + 1))} {
		if p, used, e := Next(b); p != nil || used != 0 || e != api.ErrFrame {
			t.Errorf("Next of %d bytes that are none: %d bytes, used %d, error %d", len(b), len(p), used, e)
		}
	}
}

// TestP0_3NothingStays holds that nothing is kept from call to call: behind calls that are refused the others answer as ahead of them.
func TestP0_3NothingStays(t *testing.T) {
	for range 3 {
		Seal(make([]byte, api.MaxBytes+1))
		Next(framed(some(20))[:25])
		All(append(framed(some(3)), framed(some(20))[:25]...))
		if got := must(t, some(7)); !bytes.Equal(got, framed(some(7))) {
			t.Fatalf("Seal: %v", got)
		}
		isFrame(t, "behind others", framed(some(8)), some(8))
		areFrames(t, "behind others", append(framed(some(8)), 1), [][]byte{some(8)})
	}
}

// TestP0_4NotChanged holds that bytes that are handed in aren't changed, the room behind them neither.
func TestP0_4NotChanged(t *testing.T) {
	for _, n := range []int{0, 1, 2, 8, 50, 64, 100, 1000} {
		m := some(n + 300)
		Seal(m[:n])
		Next(m[:n])
		All(m[:n])
		if !bytes.Equal(m, some(n+300)) {
			t.Fatalf("%d bytes: changed", n)
		}
		m = slices.Concat(framed(some(n)), framed(some(5)), some(200))
		want := bytes.Clone(m)
		for cut := range len(m) {
			if cut > 100 && cut < n {
				continue
			}
			Next(m[:cut])
			All(m[:cut])
		}
		if !bytes.Equal(m, want) {
			t.Fatalf("a frame of %d bytes: changed", n)
		}
	}
}

// spoil writes over bytes and all the room behind them.
func spoil(b []byte) {
	b = b[:cap(b)]
	for i := range b {
		b[i] = ^b[i]
	}
}

// TestP0_4NotShared holds that a frame, and a payload, are new memory, with the room behind them: not what was handed in, and not another answer's.
func TestP0_4NotShared(t *testing.T) {
	for _, n := range []int{0, 1, 2, 12, 52, 100, 5000, api.MaxBytes} {
		m := some(n)
		x, y := must(t, m), must(t, m)
		spoil(x)
		if !bytes.Equal(m, some(n)) || !bytes.Equal(y, framed(some(n))) {
			t.Fatalf("%d bytes: a frame is shared", n)
		}
		spoil(m)
		if !bytes.Equal(y, framed(some(n))) {
			t.Fatalf("%d bytes: a frame keeps what was handed in", n)
		}
		b := append(framed(some(n)), some(50)...)
		want := bytes.Clone(b)
		p, _, _ := Next(b)
		q, _, _ := Next(b)
		spoil(p)
		if !bytes.Equal(b, want) || !bytes.Equal(q, some(n)) {
			t.Fatalf("%d bytes: a payload is shared", n)
		}
		spoil(b)
		if !bytes.Equal(q, some(n)) {
			t.Fatalf("%d bytes: a payload keeps what was handed in", n)
		}
	}
}

// TestP0_4AllNotShared holds the same of payloads that are told in one list, among one another too, and of the list.
func TestP0_4AllNotShared(t *testing.T) {
	for _, payloads := range lists()[:len(lists())-1] {
		b := append(together(payloads), some(30)...)
		want := bytes.Clone(b)
		for i := range payloads {
			l, _ := All(b)
			spoil(l[i])
			l[i] = nil
			if !slices.EqualFunc(slices.Delete(l, i, i+1), slices.Delete(slices.Clone(payloads), i, i+1), bytes.Equal) || !bytes.Equal(b, want) {
				t.Fatalf("%d payloads: that at %d is shared", len(payloads), i)
			}
		}
		l, _ := All(b)
		again, _ := All(b)
		clear(again[:cap(again)])
		spoil(b)
		if !slices.EqualFunc(l, payloads, bytes.Equal) {
			t.Fatalf("%d payloads: they keep what was handed in, or share the list", len(payloads))
		}
		for i := range l {
			_ = append(l[i], 0xee, 0xee, 0xee)
		}
		if !slices.EqualFunc(l, payloads, bytes.Equal) {
			t.Fatalf("%d payloads: one's room is another one", len(payloads))
		}
	}
}

// TestP0_4NilIsEmpty holds that lists that are nil and empty ones are the same.
func TestP0_4NilIsEmpty(t *testing.T) {
	f := framed(some(9))
	for _, none := range [][]byte{nil, {}, f[:0], f[len(f):]} {
		if !bytes.Equal(must(t, none), framed(nil)) {
			t.Errorf("Seal of none, room %d", cap(none))
		}
		isNone(t, "none", none)
	}
}

// TestP0_4AtOnce holds that calls that run at once don't meet in any memory.
func TestP0_4AtOnce(t *testing.T) {
	var all sync.WaitGroup
	m := together([][]byte{some(3), nil, some(40)})
	for i := range 8 {
		all.Go(func() {
			for n := range 200 {
				f, e := Seal(m[i:])
				p, used, _ := Next(f)
				l, end := All(m)
				if e != api.OK || used != len(m)-i+12 || !bytes.Equal(p, m[i:]) || len(l) != 3 || end != len(m) || !bytes.Equal(l[2], some(40)) {
					t.Errorf("%d, %d: not as alone", i, n)
				}
			}
		})
	}
	all.Wait()
}

// TestWaysLeftEarly holds that frames may be gone through again, that who leaves them is told none more, and that Next doesn't go to their end.
func TestWaysLeftEarly(t *testing.T) {
	each := frames(together([][]byte{some(1), some(2), some(3)}))
	for most := range 5 {
		told := 0
		for f := range each {
			if told == most {
				break
			}
			told++
			if !bytes.Equal(f, framed(some(told))) {
				t.Fatalf("%d of at most %d: not that frame", told, most)
			}
		}
		if told != min(most, 3) {
			t.Errorf("at most %d: %d", most, told)
		}
	}
	b := bytes.Repeat(framed(some(9)), 1000)
	if long, short := testing.AllocsPerRun(10, func() { Next(b) }), testing.AllocsPerRun(10, func() { Next(b[:21]) }); long > 2*short {
		t.Errorf("Next of one frame takes memory %v times, of a thousand %v times", short, long)
	}
}
