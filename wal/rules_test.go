package wal

import (
	"bytes"
	"math"
	"math/rand"
	"slices"
	"sync"
	"testing"

	"seneschal/api"
	"seneschal/disk"
)

// isNone holds what each call tells of a wal that is none.
func isNone(t *testing.T, name string, w *Wal) {
	t.Helper()
	for _, n := range []int{0, 1, api.MaxBytes, api.MaxBytes + 1} {
		if e := w.Add(make([]byte, n)); e != api.ErrNil {
			t.Errorf("%s: Add of %d bytes: error %d", name, n, e)
		}
	}
	if e := w.Add(nil); e != api.ErrNil {
		t.Errorf("%s: Add of nil: error %d", name, e)
	}
	if e := w.Sync(); e != api.ErrNil {
		t.Errorf("%s: Sync: error %d", name, e)
	}
	if l, cut, e := w.Recover(); l != nil || cut != 0 || e != api.ErrNil {
		t.Errorf("%s: Recover: %d records, %d cut, error %d", name, len(l), cut, e)
	}
	if l, n := w.Records(), w.Lasting(); l != nil || n != 0 {
		t.Errorf("%s: %d records, %d last", name, len(l), n)
	}
}

// TestP0_1NobodyMade holds it of a wal that is nil, one that nobody made (also with a disk set in it), and one of a disk that is none, and that no call makes it one.
func TestP0_1NobodyMade(t *testing.T) {
	var zero disk.Disk
	d := on(t, framed(some(5)), framed(some(6)), some(3))
	set := &Wal{Disk: d}
	for name, w := range map[string]*Wal{"nil": nil, "new(Wal)": new(Wal), "&Wal{}": {}, "with a disk set": set, "of nil": New(nil), "of a disk nobody made": New(new(disk.Disk)), "of a variable": New(&zero)} {
		isNone(t, name, w)
		isNone(t, name+", again", w)
	}
	isDisk(t, d, append(together([][]byte{some(5), some(6)}), some(3)...), 17, 2, true)
	ok(t, d.Crash(2, 0))
	isNone(t, "with a disk set that is down", set)
	isDisk(t, d, append(together([][]byte{some(5), some(6)}), some(3)...), 38, 0, false)
}

// TestP0_1NoPanic holds that each call ends and does not panic, whatever bytes the disk has, up or down.
func TestP0_1NoPanic(t *testing.T) {
	c := rand.New(rand.NewSource(1))
	for range 20000 {
		b := make([]byte, c.Intn(40))
		for i := range b {
			b[i] = byte(c.Intn(2) * c.Intn(20) * c.Intn(2)) // mostly small, so that lengths are at times of what is there
		}
		d := on(t, b, b)
		w := New(d)
		for range 2 {
			w.Records()
			w.Lasting()
			w.Add(b)
			w.Recover()
			w.Sync()
			d.Crash(c.Intn(3), c.Intn(20))
		}
	}
}

// TestP0_2FirstError holds that no wal is ahead of a disk that is down, and that of a record that is too long.
func TestP0_2FirstError(t *testing.T) {
	long := make([]byte, api.MaxBytes+1)
	isErr(t, (*Wal)(nil).Add(long), api.ErrNil)
	isErr(t, new(Wal).Add(long), api.ErrNil)
	isErr(t, New(nil).Add(long), api.ErrNil)
	isErr(t, New(new(disk.Disk)).Add(long), api.ErrNil)
	d := disk.New()
	w := New(d)
	isErr(t, w.Add(long), api.ErrLong)
	ok(t, d.Crash(0, 0))
	isErr(t, w.Add(long), api.ErrDown)
	isErr(t, (&Wal{Disk: d}).Add(long), api.ErrNil)
}

// TestP0_3Refused holds that calls that are refused change nothing, that a crash later on could tell neither.
func TestP0_3Refused(t *testing.T) {
	recs := [][]byte{some(4), nil, some(17)}
	for keep := range 4 {
		for _, torn := range []int{0, 1, 11, math.MaxInt} {
			d := on(t, framed(some(2)))
			w := New(d)
			add(t, w, recs...)
			isErr(t, w.Add(make([]byte, api.MaxBytes+1)), api.ErrLong)
			isDisk(t, d, append(framed(some(2)), together(recs)...), 14, 3, true)
			ok(t, d.Crash(keep, torn))
			left := d.Bytes()
			isErr(t, w.Add([]byte{9}), api.ErrDown)
			isErr(t, w.Sync(), api.ErrDown)
			_, _, e := w.Recover()
			isErr(t, e, api.ErrDown)
			isDisk(t, d, left, len(left), 0, false)
			ok(t, d.Start())
			isDisk(t, d, left, len(left), 0, true)
			has(t, w, append([][]byte{some(2)}, recs[:keep]...), keep+1)
		}
	}
}

// spoil writes over bytes and all the room behind them.
func spoil(b []byte) {
	b = b[:cap(b)]
	for i := range b {
		b[i] = ^b[i]
	}
}

// TestP0_4NotChanged holds that a record that is added isn't changed, the room behind it neither, by whatever comes later.
func TestP0_4NotChanged(t *testing.T) {
	m := some(300)
	for n := range 100 {
		d := disk.New()
		w := New(d)
		add(t, w, m[:n], m[:2*n])
		ok(t, w.Sync())
		add(t, w, m[n:2*n])
		ok(t, d.Crash(0, n))
		ok(t, d.Start())
		w.Recover()
		add(t, w, m[n:])
		if !bytes.Equal(m, some(300)) {
			t.Fatalf("%d bytes: changed", n)
		}
	}
}

// TestP0_4NotKept holds that a wal has its records for itself, whoever changes the bytes that were handed in later on.
func TestP0_4NotKept(t *testing.T) {
	d := disk.New()
	w := New(d)
	var want [][]byte
	for _, n := range []int{0, 1, 2, 64, 1000, api.MaxBytes} {
		m := some(n)
		add(t, w, m)
		spoil(m)
		want = append(want, some(n))
		has(t, w, want, 0)
	}
}

// TestP0_4NotShared holds that records that are told are new memory, with the room behind them, among one another too, and the list is.
func TestP0_4NotShared(t *testing.T) {
	for _, recs := range lists() {
		for _, rest := range [][]byte{nil, {1, 2, 3}} {
			d := on(t, together(recs), rest)
			w := New(d)
			recovered, _, e := w.Recover()
			ok(t, e)
			for _, l := range [][][]byte{w.Records(), recovered} {
				for i := range l {
					_ = append(l[i], 0xee, 0xee, 0xee)
				}
				if !slices.EqualFunc(l, recs, bytes.Equal) {
					t.Fatalf("%d records: one's room is another one", len(recs))
				}
				for i := range l {
					spoil(l[i])
					if !slices.EqualFunc(l[i+1:], recs[i+1:], bytes.Equal) {
						t.Fatalf("%d records: that at %d is shared", len(recs), i)
					}
				}
				clear(l[:cap(l)])
				has(t, w, recs, len(recs))
			}
		}
	}
}

// TestP0_4Apart holds that what was told doesn't change later on.
func TestP0_4Apart(t *testing.T) {
	d := disk.New()
	w := New(d)
	add(t, w, some(3), some(40))
	first := w.Records()
	again, _, e := w.Recover()
	ok(t, e)
	ok(t, d.Crash(0, 14))
	ok(t, d.Start())
	recovers(t, w, nil, 14)
	add(t, w, some(50), some(4))
	for _, l := range [][][]byte{first, again} {
		if !slices.EqualFunc(l, [][]byte{some(3), some(40)}, bytes.Equal) {
			t.Errorf("%v: changed", l)
		}
	}
}

// TestP0_4NilIsEmpty holds that a record that is nil and an empty one are the same, a record as others.
func TestP0_4NilIsEmpty(t *testing.T) {
	for _, none := range [][]byte{nil, {}, some(9)[:0], some(9)[9:]} {
		d := disk.New()
		w := New(d)
		add(t, w, none)
		isDisk(t, d, framed(nil), 0, 1, true)
		has(t, w, [][]byte{nil}, 0)
		ok(t, w.Sync())
		recovers(t, w, [][]byte{nil}, 0)
		has(t, w, [][]byte{nil}, 1)
	}
}

// TestP0_4AtOnce holds that wals of their own disks that run at once don't meet in any memory.
func TestP0_4AtOnce(t *testing.T) {
	var all sync.WaitGroup
	m := some(50)
	for i := range 8 {
		all.Go(func() {
			for range 50 {
				d := disk.New()
				w := New(d)
				for j := range 5 {
					w.Add(m[i : i+j])
				}
				w.Sync()
				w.Add(m[i:])
				d.Crash(0, i)
				d.Start()
				want := [][]byte{nil, m[i : i+1], m[i : i+2], m[i : i+3], m[i : i+4]}
				l, cut, e := w.Recover()
				if e != api.OK || cut != i || w.Lasting() != 5 || !slices.EqualFunc(l, want, bytes.Equal) {
					t.Errorf("%d: %v, %d cut, error %d, not %v", i, l, cut, e, want)
				}
			}
		})
	}
	all.Wait()
}

// TestWaysRanged holds that records may be gone through again, that who leaves them is told none more, and where each one's frame ends.
func TestWaysRanged(t *testing.T) {
	each := records(together([][]byte{some(1), some(2), some(3)}))
	for most := range 5 {
		told, at := 0, 0
		for rec, end := range each {
			if told == most {
				break
			}
			told++
			at += told + 12
			if !bytes.Equal(rec, some(told)) || end != at {
				t.Fatalf("%d of at most %d: %v, its end at %d, not %d", told, most, rec, end, at)
			}
		}
		if told != min(most, 3) {
			t.Errorf("at most %d: %d", most, told)
		}
	}
}

// TestWaysEmbedded holds that a wal's disk is the one that was handed in, and is asked as the wal is.
func TestWaysEmbedded(t *testing.T) {
	d := on(t, framed(some(5)), some(3))
	w := New(d)
	if w.Disk != d || !w.Up() || w.Synced() != 17 || w.Writes() != 1 || !bytes.Equal(w.Bytes(), d.Bytes()) {
		t.Errorf("not the disk that was handed in")
	}
	ok(t, w.Crash(0, 1))
	isDisk(t, d, append(framed(some(5)), some(3)[0]), 18, 0, false)
	ok(t, w.Start())
	recovers(t, w, [][]byte{some(5)}, 1)
}
