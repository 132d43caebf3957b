package wal

import (
	"bytes"
	"crypto/sha256"
	"encoding/binary"
	"math"
	"math/rand"
	"slices"
	"testing"

	"seneschal/api"
	"seneschal/disk"
)

// some tells bytes that are hardly ever the same at two places.
func some(n int) []byte {
	b := make([]byte, n)
	rand.New(rand.NewSource(int64(n))).Read(b)
	return b
}

// framed tells a record's frame, as another program works it out; also of a record that is too long to have one.
func framed(rec []byte) []byte {
	ahead := append(binary.BigEndian.AppendUint32(nil, uint32(len(rec))), rec...)
	t := sha256.Sum256(ahead)
	return append(ahead, t[:8]...)
}

// together tells the frames of records, one behind the other.
func together(recs [][]byte) []byte {
	var b []byte
	for _, r := range recs {
		b = append(b, framed(r)...)
	}
	return b
}

// ok holds that a call was not refused.
func ok(t *testing.T, e api.Errno) {
	t.Helper()
	isErr(t, e, api.OK)
}

// isErr holds that a call answered that error.
func isErr(t *testing.T, got, want api.Errno) {
	t.Helper()
	if got != want {
		t.Fatalf("error %d, not %d", got, want)
	}
}

// isDisk holds all that a disk tells.
func isDisk(t *testing.T, d *disk.Disk, all []byte, synced, writes int, up bool) {
	t.Helper()
	if !bytes.Equal(d.Bytes(), all) || d.Synced() != synced || d.Writes() != writes || d.Up() != up {
		t.Fatalf("%v, %d synced, %d writes, up: %v; not %v, %d, %d, %v", d.Bytes(), d.Synced(), d.Writes(), d.Up(), all, synced, writes, up)
	}
}

// has holds that a wal's records are these, and how many of them last.
func has(t *testing.T, w *Wal, recs [][]byte, lasting int) {
	t.Helper()
	if got := w.Records(); !slices.EqualFunc(got, recs, bytes.Equal) || w.Lasting() != lasting {
		t.Fatalf("%d records, %d last; not %d, %d", len(got), w.Lasting(), len(recs), lasting)
	}
}

// recovers holds what Recover tells.
func recovers(t *testing.T, w *Wal, recs [][]byte, cut int) {
	t.Helper()
	if got, n, e := w.Recover(); e != api.OK || n != cut || !slices.EqualFunc(got, recs, bytes.Equal) {
		t.Fatalf("%d records, %d cut, error %d; not %d, %d", len(got), n, e, len(recs), cut)
	}
}

// add adds records.
func add(t *testing.T, w *Wal, recs ...[]byte) {
	t.Helper()
	for _, r := range recs {
		ok(t, w.Add(r))
	}
}

// texts tells texts as bytes.
func texts(l ...string) [][]byte {
	var b [][]byte
	for _, s := range l {
		b = append(b, []byte(s))
	}
	return b
}

// on makes a disk that has some synced bytes, and writes behind them.
func on(t *testing.T, synced []byte, writes ...[]byte) *disk.Disk {
	t.Helper()
	d := disk.New()
	ok(t, d.Write(synced))
	ok(t, d.Sync())
	for _, b := range writes {
		ok(t, d.Write(b))
	}
	return d
}

// lists tells lists of records: none, one, many, empty ones, such as are frames themselves, the longest ones.
func lists() [][][]byte {
	l := [][][]byte{nil, {nil}, {nil, nil, nil}, {some(1), nil, some(2)}, {framed(some(1)), framed(nil)}, {some(7), some(7)}, {some(3), some(api.MaxBytes), nil}}
	for n := range 7 {
		var recs [][]byte
		for i := range n {
			recs = append(recs, some(11*i%30))
		}
		l = append(l, recs)
	}
	return l
}

// rests tells what may stand behind frames without being one: none of them is a beginning of another's frame.
func rests() map[string][]byte {
	otherwise := framed(some(20))
	otherwise[9] ^= 1
	return map[string][]byte{
		"a nought": {0}, "noughts": make([]byte, 40), "0xff": bytes.Repeat([]byte{0xff}, 40), "a torn one": framed(some(20))[:31], "an empty one, torn": framed(nil)[:11],
		"one otherwise": otherwise, "one too long": framed(some(api.MaxBytes + 1)), "one that goes past the end": {0, 0, 1, 0, 7, 7}, "one ahead of which a byte stands": append([]byte{1}, framed(some(3))...),
	}
}

func TestP7_1Examples(t *testing.T) {
	d := disk.New()
	w := New(d)
	if w == nil {
		t.Fatal("New: nil")
	}
	has(t, w, nil, 0)
	ok(t, w.Add([]byte("a")))
	has(t, w, texts("a"), 0)
	ok(t, w.Sync())
	ok(t, w.Add([]byte("bc")))
	has(t, w, texts("a", "bc"), 1)
	ok(t, d.Crash(0, 5))
	has(t, w, texts("a"), 1)
	isErr(t, w.Add([]byte("d")), api.ErrDown)
	ok(t, d.Start())
	recovers(t, w, texts("a"), 5)
	ok(t, w.Add([]byte("d")))
	has(t, w, texts("a", "d"), 1)
}

// TestP7_1WhatIsThere holds that a wal has the records that its disk has, and that making it changes nothing on the disk.
func TestP7_1WhatIsThere(t *testing.T) {
	for _, recs := range lists() {
		b := together(recs)
		for _, rest := range [][]byte{nil, {1, 2, 3}} {
			d := on(t, b, rest, nil)
			w := New(d)
			isDisk(t, d, append(bytes.Clone(b), rest...), len(b), 2, true)
			has(t, w, recs, len(recs))
			ok(t, d.Crash(1, 0))
			isDisk(t, d, append(bytes.Clone(b), rest...), len(b)+len(rest), 0, false)
			has(t, New(d), recs, len(recs))
			isDisk(t, d, append(bytes.Clone(b), rest...), len(b)+len(rest), 0, false)
		}
	}
}

// TestP7_1OneWrite holds that what is added is the record's frame, as one write, that isn't synced.
func TestP7_1OneWrite(t *testing.T) {
	for _, n := range []int{0, 1, 2, 3, 8, 12, 50, 51, 52, 255, 256, 1000, 65279, 65280, api.MaxBytes - 12, api.MaxBytes - 1, api.MaxBytes} {
		d := on(t, []byte{7}, []byte{8, 9})
		w := New(d)
		ok(t, w.Add(some(n)))
		isDisk(t, d, append([]byte{7, 8, 9}, framed(some(n))...), 1, 2, true)
		ok(t, w.Add(some(n)))
		isDisk(t, d, slices.Concat([]byte{7, 8, 9}, framed(some(n)), framed(some(n))), 1, 3, true)
	}
}

func TestP7_1Long(t *testing.T) {
	for _, n := range []int{api.MaxBytes + 1, api.MaxBytes + 2, api.MaxBytes + 12, 2 * api.MaxBytes, 1<<24 + 5} {
		d := on(t, framed(some(3)), framed(some(4)))
		w := New(d)
		isErr(t, w.Add(make([]byte, n)), api.ErrLong)
		isDisk(t, d, together([][]byte{some(3), some(4)}), 15, 1, true)
		has(t, w, [][]byte{some(3), some(4)}, 1)
	}
}

func TestP7_1Down(t *testing.T) {
	d := on(t, framed(some(3)), framed(some(4)))
	w := New(d)
	ok(t, d.Crash(1, 0))
	for _, n := range []int{0, 1, api.MaxBytes, api.MaxBytes + 1, 2 * api.MaxBytes} {
		isErr(t, w.Add(make([]byte, n)), api.ErrDown)
		isErr(t, w.Sync(), api.ErrDown)
		isDisk(t, d, together([][]byte{some(3), some(4)}), 31, 0, false)
	}
	ok(t, d.Start())
	ok(t, w.Add(some(5)))
	ok(t, w.Sync())
	has(t, w, [][]byte{some(3), some(4), some(5)}, 3)
}

// TestP7_1Sync holds that all that was written is synced, also what isn't a record, and that without anything to sync it is so, too.
func TestP7_1Sync(t *testing.T) {
	for _, recs := range lists() {
		for _, rest := range [][]byte{nil, {1, 2, 3}} {
			d := disk.New()
			w := New(d)
			add(t, w, recs...)
			ok(t, d.Write(rest))
			all := append(together(recs), rest...)
			isDisk(t, d, all, 0, len(recs)+1, true)
			for range 2 {
				ok(t, w.Sync())
				isDisk(t, d, all, len(all), 0, true)
				has(t, w, recs, len(recs))
			}
		}
	}
}

// TestP7_2Rest holds that whatever isn't a frame is cut off, with all behind it, and that all ahead of it is synced by that.
func TestP7_2Rest(t *testing.T) {
	for name, rest := range rests() {
		for _, recs := range lists() {
			b := together(recs)
			for _, behind := range [][]byte{nil, framed(some(9)), {0}} {
				d := on(t, nil, b, rest, behind)
				w := New(d)
				has(t, w, recs, 0)
				recovers(t, w, recs, len(rest)+len(behind))
				isDisk(t, d, b, len(b), 0, true)
				has(t, w, recs, len(recs))
				recovers(t, w, recs, 0)
				ok(t, w.Add([]byte(name)))
				has(t, w, append(slices.Clone(recs), []byte(name)), len(recs))
			}
		}
	}
}

// TestP7_2SyncedRest holds that a rest that is synced is cut off as well.
func TestP7_2SyncedRest(t *testing.T) {
	for _, rest := range rests() {
		d := on(t, append(framed(some(5)), rest...), some(3))
		recovers(t, New(d), [][]byte{some(5)}, len(rest)+3)
		isDisk(t, d, framed(some(5)), 17, 0, true)
	}
}

// TestP7_2NoRest holds that without a rest nothing is cut: what isn't synced isn't, and may be lost.
func TestP7_2NoRest(t *testing.T) {
	for _, recs := range lists() {
		for n := range len(recs) + 1 {
			d := disk.New()
			w := New(d)
			add(t, w, recs[:n]...)
			ok(t, w.Sync())
			add(t, w, recs[n:]...)
			for range 2 {
				recovers(t, w, recs, 0)
				isDisk(t, d, together(recs), len(together(recs[:n])), len(recs)-n, true)
			}
			ok(t, d.Crash(0, 0))
			ok(t, d.Start())
			recovers(t, w, recs[:n], 0)
		}
	}
}

func TestP7_2Down(t *testing.T) {
	d := on(t, framed(some(5)), some(3))
	w := New(d)
	ok(t, d.Crash(1, 0))
	for range 2 {
		if l, cut, e := w.Recover(); e != api.ErrDown || l != nil || cut != 0 {
			t.Fatalf("%d records, %d cut, error %d; not ErrDown alone", len(l), cut, e)
		}
		isDisk(t, d, append(framed(some(5)), some(3)...), 20, 0, false)
	}
	ok(t, d.Start())
	recovers(t, w, [][]byte{some(5)}, 3)
	isDisk(t, d, framed(some(5)), 17, 0, true)
}

// TestP7_3Rest holds that records are told up to the first that is none, up or down, and that asking changes nothing.
func TestP7_3Rest(t *testing.T) {
	for _, rest := range rests() {
		for _, recs := range lists() {
			b := slices.Concat(together(recs), rest, framed(some(4)))
			d := on(t, b)
			w := New(d)
			for range 2 {
				has(t, w, recs, len(recs))
				isDisk(t, d, b, len(b), 0, true)
			}
			ok(t, d.Crash(0, 0))
			for range 2 {
				has(t, w, recs, len(recs))
				isDisk(t, d, b, len(b), 0, false)
			}
		}
	}
}

// TestP7_3Lasting holds that a record lasts as soon as the last byte of its frame is synced, not ahead of that.
func TestP7_3Lasting(t *testing.T) {
	recs := [][]byte{some(2), nil, some(9), some(30)}
	b := together(recs)
	for n := range len(b) + 1 {
		want, end := 0, 0
		for _, r := range recs {
			end += len(r) + 12
			if end <= n {
				want++
			}
		}
		has(t, New(on(t, b[:n], b[n:])), recs, want)
		has(t, New(on(t, b[:n], b[n:], some(5))), recs, want)
	}
	for n := range 5 {
		has(t, New(on(t, append(bytes.Clone(b), some(5)[:n]...), some(5)[n:])), recs, len(recs))
	}
}

// TestP7_3NotWhole holds that a frame that isn't whole is no record, whether it is synced or not.
func TestP7_3NotWhole(t *testing.T) {
	f := framed(some(40))
	for n := range f {
		has(t, New(on(t, framed(nil), f[:n])), [][]byte{nil}, 1)
		has(t, New(on(t, append(framed(nil), f[:n]...))), [][]byte{nil}, 1)
	}
}

// TestP7_3Anew holds that what is told is what is on the disk now, whoever changed it.
func TestP7_3Anew(t *testing.T) {
	d := disk.New()
	w, other := New(d), New(d)
	add(t, w, some(1))
	add(t, other, some(2))
	has(t, w, [][]byte{some(1), some(2)}, 0)
	ok(t, d.Sync())
	has(t, w, [][]byte{some(1), some(2)}, 2)
	ok(t, d.Write(framed(some(3))))
	has(t, w, [][]byte{some(1), some(2), some(3)}, 2)
	ok(t, d.Cut(20))
	has(t, w, [][]byte{some(1)}, 1)
	has(t, other, [][]byte{some(1)}, 1)
	recovers(t, other, [][]byte{some(1)}, 7)
	isDisk(t, d, framed(some(1)), 13, 0, true)
	ok(t, d.Cut(0))
	has(t, w, nil, 0)
}

// TestP7_4ABeginning holds it of each crash of few records, of which some last: what is left, what Recover cuts, and what is added then.
func TestP7_4ABeginning(t *testing.T) {
	recs := [][]byte{some(3), nil, some(20), some(1), nil}
	for lasting := range len(recs) + 1 {
		for _, keep := range []int{0, 1, 2, 3, 4, 5, 6, math.MaxInt} {
			for _, torn := range []int{0, 1, 3, 4, 5, 11, 12, 13, 31, 32, 100, math.MaxInt} {
				d := disk.New()
				w := New(d)
				add(t, w, recs[:lasting]...)
				ok(t, w.Sync())
				add(t, w, recs[lasting:]...)
				ok(t, d.Crash(keep, torn))
				n, cut := len(recs), 0
				if keep < len(recs)-lasting {
					n = lasting + keep
					cut = min(torn, len(recs[n])+11)
				}
				has(t, w, recs[:n], n)
				ok(t, d.Start())
				has(t, w, recs[:n], n)
				recovers(t, w, recs[:n], cut)
				isDisk(t, d, together(recs[:n]), len(together(recs[:n])), 0, true)
				add(t, w, some(50), some(51))
				has(t, w, append(slices.Clone(recs[:n]), some(50), some(51)), n)
			}
		}
	}
}

// TestP7_5Added holds that records are those that were there, and those that were added, whatever is asked between.
func TestP7_5Added(t *testing.T) {
	for _, there := range lists() {
		d := on(t, together(there))
		w := New(d)
		recs := slices.Clone(there)
		lasting := len(there)
		for i, r := range slices.Concat(lists()...) {
			add(t, w, r)
			recs = append(recs, r)
			if i%5 == 4 {
				ok(t, w.Sync())
				lasting = len(recs)
			}
			if i%3 == 2 {
				isErr(t, w.Add(make([]byte, api.MaxBytes+1)), api.ErrLong)
				recovers(t, w, recs, 0)
				w = New(d)
			}
			if i%7 == 6 {
				has(t, w, recs, lasting)
			}
		}
		has(t, w, recs, lasting)
	}
}

// TestP7_5BehindARest holds that what is added behind a rest that isn't cut off is no record, as those at the beginning alone are.
func TestP7_5BehindARest(t *testing.T) {
	d := on(t, framed(some(6)), []byte{1})
	w := New(d)
	add(t, w, some(7))
	has(t, w, [][]byte{some(6)}, 1)
	isDisk(t, d, slices.Concat(framed(some(6)), []byte{1}, framed(some(7))), 18, 2, true)
	recovers(t, w, [][]byte{some(6)}, 20)
	add(t, w, some(7))
	has(t, w, [][]byte{some(6), some(7)}, 1)
}

// model is a wal as another program would keep it: its records, how many of them last, what stands behind them, whether its disk is up.
type model struct {
	recs    [][]byte
	lasting int
	torn    int
	up      bool
}

// crash leaves so many of the records that don't last, and so many bytes of the next one.
func (m *model) crash(keep, torn int) {
	if n := m.lasting + keep; n < len(m.recs) {
		m.torn = min(torn, len(m.recs[n])+11)
		m.recs = m.recs[:n:n]
	}
	m.lasting, m.up = len(m.recs), false
}

// TestP7_1To7_5ByChance holds long lines of calls against the model. A wal that is started again is recovered, as one with a rest behind its records takes no others.
func TestP7_1To7_5ByChance(t *testing.T) {
	c := rand.New(rand.NewSource(7))
	for range 600 {
		d := disk.New()
		w, m := New(d), &model{up: true}
		for range 40 {
			switch what := c.Intn(12); {
			case !m.up && what < 6:
				isErr(t, w.Add(some(what)), api.ErrDown)
				isErr(t, w.Sync(), api.ErrDown)
			case !m.up:
				ok(t, d.Start())
				m.up = true
				recovers(t, w, m.recs, m.torn)
				m.torn = 0
			case what == 0:
				keep, torn := c.Intn(5), c.Intn(40)
				ok(t, d.Crash(keep, torn))
				m.crash(keep, torn)
			case what < 3:
				ok(t, w.Sync())
				m.lasting = len(m.recs)
			case what == 3:
				recovers(t, w, m.recs, 0)
				w = New(d)
			default:
				r := make([]byte, c.Intn(40))
				c.Read(r)
				add(t, w, r)
				m.recs = append(m.recs, r)
			}
			has(t, w, m.recs, m.lasting)
		}
	}
}
