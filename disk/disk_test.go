package disk

import (
	"bytes"
	"math"
	"math/rand"
	"slices"
	"testing"

	"seneschal/api"
)

// some tells bytes that are hardly ever the same at two places.
func some(n int) []byte {
	b := make([]byte, n)
	rand.New(rand.NewSource(int64(n))).Read(b)
	return b
}

// ok holds that a call was not refused.
func ok(t *testing.T, e api.Errno) {
	t.Helper()
	isErr(t, e, api.OK)
}

// isErr holds that a call answered that error.
func isErr(t *testing.T, got, want api.Errno) {
	t.Helper()
	if got != want {
		t.Fatalf("error %d, not %d", got, want)
	}
}

// is holds all that a disk tells.
func is(t *testing.T, d *Disk, all []byte, synced, writes int, up bool) {
	t.Helper()
	if !bytes.Equal(d.Bytes(), all) || d.Synced() != synced || d.Writes() != writes || d.Up() != up {
		t.Fatalf("%v, %d synced, %d writes, up: %v; not %v, %d, %d, %v", d.Bytes(), d.Synced(), d.Writes(), d.Up(), all, synced, writes, up)
	}
}

// with makes a disk with some bytes that are synced, and writes of these sizes behind them; each byte is its place.
func with(t *testing.T, synced int, sizes ...int) *Disk {
	t.Helper()
	d := New()
	at := 0
	write := func(n int) {
		ok(t, d.Write(places(at, at+n)))
		at += n
	}
	write(synced)
	ok(t, d.Sync())
	for _, n := range sizes {
		write(n)
	}
	return d
}

// places tells the bytes from, from + 1, .. ahead of to.
func places(from, to int) []byte {
	var b []byte
	for i := from; i < to; i++ {
		b = append(b, byte(i))
	}
	return b
}

// sizeLists tells lists of up to four sizes of writes, each from 0 to 3.
func sizeLists() [][]int {
	l := [][]int{nil}
	for i := 0; len(l[i]) < 4; i++ {
		for n := range 4 {
			l = append(l, append(slices.Clone(l[i]), n))
		}
	}
	return l
}

// sum tells how many bytes writes of these sizes have.
func sum(sizes []int) int {
	all := 0
	for _, n := range sizes {
		all += n
	}
	return all
}

// numbers tells what a crash may be handed: small ones, and the greatest.
func numbers() []int { return []int{0, 1, 2, 3, 4, 5, math.MaxInt32, math.MaxInt - 1, math.MaxInt} }

// leftOf tells how many bytes of writes of these sizes a crash leaves, counted byte by byte.
func leftOf(sizes []int, keep, torn int) int {
	n := 0
	for i, size := range sizes {
		for j := range size {
			if i < keep || i == keep && j < torn && j < size-1 {
				n++
			}
		}
	}
	return n
}

func TestP6_1New(t *testing.T) {
	d := New()
	if d == nil {
		t.Fatal("New: nil")
	}
	is(t, d, nil, 0, 0, true)
	ok(t, d.Write([]byte{1}))
	is(t, New(), nil, 0, 0, true)
	is(t, d, []byte{1}, 0, 1, true)
}

// TestP6_1Write holds that bytes stand behind the others, as one write each, also where there are none of them, or what is there was synced.
func TestP6_1Write(t *testing.T) {
	d := New()
	var all []byte
	synced, writes := 0, 0
	for i, n := range []int{1, 2, 0, 0, 3, 64, 1, 0, 1000, 7, 0, api.MaxBytes, api.MaxBytes + 1, 1} {
		ok(t, d.Write(some(n)))
		all = append(all, some(n)...)
		writes++
		is(t, d, all, synced, writes, true)
		if i%4 == 3 {
			ok(t, d.Sync())
			synced, writes = len(all), 0
			is(t, d, all, synced, writes, true)
		}
	}
}

func TestP6_1Sync(t *testing.T) {
	for _, sizes := range sizeLists() {
		for synced := range 3 {
			n := synced + sum(sizes)
			d := with(t, synced, sizes...)
			is(t, d, places(0, n), synced, len(sizes), true)
			for range 2 {
				ok(t, d.Sync())
				is(t, d, places(0, n), n, 0, true)
			}
			ok(t, d.Crash(0, 0))
			is(t, d, places(0, n), n, 0, false)
		}
	}
}

// TestP6_1Many holds that writes and syncs go on, however many there are.
func TestP6_1Many(t *testing.T) {
	const n = 300000
	d := New()
	for i := range n {
		ok(t, d.Write([]byte{byte(i), byte(i >> 8)}))
		ok(t, d.Sync())
	}
	for i := range n {
		ok(t, d.Write([]byte{byte(i)}))
	}
	if b := d.Bytes(); len(b) != 3*n || d.Synced() != 2*n || d.Writes() != n || b[2*(n-1)] != byte((n-1)%256) || b[3*n-2] != byte((n-2)%256) {
		t.Fatalf("%d bytes, %d synced, %d writes", len(b), d.Synced(), d.Writes())
	}
	ok(t, d.Crash(n-1, 1))
	if d.Synced() != 3*n-1 || d.Writes() != 0 {
		t.Errorf("behind a crash: %d synced, %d writes", d.Synced(), d.Writes())
	}
}

// TestP6_1Down holds that one that isn't up writes and syncs nothing.
func TestP6_1Down(t *testing.T) {
	d := with(t, 2, 1)
	ok(t, d.Crash(1, 0))
	for _, b := range [][]byte{nil, {7}, some(100)} {
		isErr(t, d.Write(b), api.ErrDown)
		isErr(t, d.Sync(), api.ErrDown)
		is(t, d, places(0, 3), 3, 0, false)
	}
}

func TestP6_2Examples(t *testing.T) {
	d := New()
	ok(t, d.Write([]byte{1, 2}))
	ok(t, d.Sync())
	ok(t, d.Write([]byte{3}))
	ok(t, d.Write([]byte{4, 5, 6}))
	ok(t, d.Crash(1, 9))
	is(t, d, []byte{1, 2, 3, 4, 5}, 5, 0, false)
	isErr(t, d.Write([]byte{7}), api.ErrDown)
	ok(t, d.Start())
	isErr(t, d.Start(), api.ErrArg)
	is(t, d, []byte{1, 2, 3, 4, 5}, 5, 0, true)
	ok(t, d.Write([]byte{7}))
	is(t, d, []byte{1, 2, 3, 4, 5, 7}, 5, 1, true)
	ok(t, d.Cut(2))
	is(t, d, []byte{1, 2}, 2, 0, true)
	isErr(t, d.Cut(3), api.ErrArg)
}

// TestP6_2WhatIsLeft holds it of all that a crash may be of few writes, and that what is written behind a start stands behind what is left.
func TestP6_2WhatIsLeft(t *testing.T) {
	for _, sizes := range sizeLists() {
		for _, keep := range numbers() {
			for _, torn := range numbers() {
				for _, synced := range []int{0, 2} {
					d := with(t, synced, sizes...)
					ok(t, d.Crash(keep, torn))
					n := synced + leftOf(sizes, keep, torn)
					is(t, d, places(0, n), n, 0, false)
					ok(t, d.Start())
					ok(t, d.Write([]byte{200, 201}))
					is(t, d, append(places(0, n), 200, 201), n, 1, true)
					ok(t, d.Crash(0, 1))
					is(t, d, append(places(0, n), 200), n+1, 0, false)
				}
			}
		}
	}
}

// TestP6_2Torn holds the edges of one write: none of its bytes, one, all but one; never the last one.
func TestP6_2Torn(t *testing.T) {
	for _, n := range []int{0, 1, 2, 3, 100, api.MaxBytes} {
		for _, torn := range []int{0, 1, 2, n - 2, n - 1, n, n + 1, math.MaxInt} {
			if torn < 0 {
				continue
			}
			d := New()
			ok(t, d.Write(some(n)))
			ok(t, d.Write([]byte{9}))
			ok(t, d.Crash(0, torn))
			want := min(torn, n-1)
			if n == 0 {
				want = 0
			}
			if got := d.Bytes(); !bytes.Equal(got, some(n)[:want]) || d.Synced() != want {
				t.Fatalf("%d of %d bytes: %d left, %d synced; not %d", torn, n, len(got), d.Synced(), want)
			}
		}
	}
}

// TestP6_2Empty holds that a write without bytes counts as one of those that stay.
func TestP6_2Empty(t *testing.T) {
	d := with(t, 1, 0, 2, 0, 2)
	ok(t, d.Crash(1, 0))
	is(t, d, places(0, 1), 1, 0, false)
	d = with(t, 1, 0, 2, 0, 2)
	ok(t, d.Crash(2, 7)) // the next one is the one without bytes: nothing of the one behind it
	is(t, d, places(0, 3), 3, 0, false)
	d = with(t, 1, 0, 2, 0, 2)
	ok(t, d.Crash(3, 7))
	is(t, d, places(0, 4), 4, 0, false)
}

func TestP6_2NothingToLose(t *testing.T) {
	for _, keep := range numbers() {
		for _, torn := range numbers() {
			d := New()
			ok(t, d.Crash(keep, torn))
			is(t, d, nil, 0, 0, false)
			d = with(t, 5)
			ok(t, d.Crash(keep, torn))
			is(t, d, places(0, 5), 5, 0, false)
		}
	}
}

func TestP6_2Refused(t *testing.T) {
	below := []int{-1, -2, math.MinInt32, math.MinInt}
	for _, n := range below {
		for _, other := range append(numbers(), below...) {
			d := with(t, 2, 1, 3)
			isErr(t, d.Crash(n, other), api.ErrArg)
			isErr(t, d.Crash(other, n), api.ErrArg)
			is(t, d, places(0, 6), 2, 2, true)
			ok(t, d.Crash(1, 1))
			is(t, d, places(0, 4), 4, 0, false)
			isErr(t, d.Crash(0, 0), api.ErrDown)
			isErr(t, d.Crash(n, other), api.ErrDown)
			isErr(t, d.Crash(other, n), api.ErrDown)
			is(t, d, places(0, 4), 4, 0, false)
		}
	}
}

func TestP6_3Start(t *testing.T) {
	d := with(t, 2, 3)
	isErr(t, d.Start(), api.ErrArg)
	is(t, d, places(0, 5), 2, 1, true)
	for range 3 {
		ok(t, d.Crash(1, 0))
		ok(t, d.Start())
		is(t, d, places(0, 5), 5, 0, true)
		isErr(t, d.Start(), api.ErrArg)
		is(t, d, places(0, 5), 5, 0, true)
	}
	isErr(t, New().Start(), api.ErrArg)
}

// TestP6_3Cut holds it of each number of bytes: in what is synced, between two writes, in the midst of one, at the end, and past it.
func TestP6_3Cut(t *testing.T) {
	for _, sizes := range sizeLists() {
		for _, synced := range []int{0, 1, 3} {
			n := synced + sum(sizes)
			for to := range n + 1 {
				d := with(t, synced, sizes...)
				ok(t, d.Cut(to))
				is(t, d, places(0, to), to, 0, true)
				isErr(t, d.Cut(to+1), api.ErrArg)
				ok(t, d.Write([]byte{200, 201}))
				is(t, d, append(places(0, to), 200, 201), to, 1, true)
				ok(t, d.Crash(0, 1))
				is(t, d, append(places(0, to), 200), to+1, 0, false)
			}
			for _, wrong := range []int{-1, -2, math.MinInt, n + 1, n + 2, math.MaxInt32, math.MaxInt} {
				d := with(t, synced, sizes...)
				isErr(t, d.Cut(wrong), api.ErrArg)
				is(t, d, places(0, n), synced, len(sizes), true)
			}
		}
	}
}

func TestP6_3CutDown(t *testing.T) {
	d := with(t, 3)
	ok(t, d.Crash(0, 0))
	for _, n := range []int{0, 1, 3, 4, -1, math.MinInt, math.MaxInt} {
		isErr(t, d.Cut(n), api.ErrDown)
		is(t, d, places(0, 3), 3, 0, false)
	}
	ok(t, d.Start())
	ok(t, d.Cut(3))
	ok(t, d.Cut(0))
	ok(t, d.Cut(0))
	is(t, d, nil, 0, 0, true)
}

// TestP6_4Told holds what is told of one that is up, and of one that isn't, and that asking changes nothing.
func TestP6_4Told(t *testing.T) {
	d := with(t, 2, 0, 3)
	for range 3 {
		is(t, d, places(0, 5), 2, 2, true)
	}
	ok(t, d.Crash(1, 1))
	for range 3 {
		is(t, d, places(0, 3), 3, 0, false)
	}
	ok(t, d.Start())
	is(t, d, places(0, 3), 3, 0, true)
}

// model is a disk as another program would keep it: all bytes in one list, and where each write ends.
type model struct {
	all    []byte
	synced int
	ends   []int
	up     bool
}

// done tells what is left, up to so many bytes, as synced.
func (m *model) done(n int) api.Errno {
	m.all, m.synced, m.ends = m.all[:n:n], n, nil
	return api.OK
}

// crash counts by where writes end.
func (m *model) crash(keep, torn int) api.Errno {
	m.up = false
	ends := append([]int{m.synced}, m.ends...)
	if keep >= len(m.ends) {
		return m.done(len(m.all))
	}
	for ; torn > 0; torn-- {
		if n := ends[keep] + torn; n < ends[keep+1] {
			return m.done(n)
		}
	}
	return m.done(ends[keep])
}

// chance tells n bytes by chance.
func chance(c *rand.Rand, n int) []byte {
	b := make([]byte, n)
	c.Read(b)
	return b
}

// both does something by chance to a disk and to its model, and tells what they answer.
func both(c *rand.Rand, d *Disk, m *model) (got, want api.Errno) {
	x, y := c.Intn(8)-1, c.Intn(8)-1
	b := chance(c, c.Intn(6))
	if c.Intn(10) == 0 {
		got = d.Start()
		if m.up {
			return got, api.ErrArg
		}
		m.up = true
		return got, api.OK
	}
	what := c.Intn(12)
	if !m.up {
		want = api.ErrDown
	}
	switch {
	case what == 0:
		got = d.Crash(x, y)
		if m.up && (x < 0 || y < 0) {
			want = api.ErrArg
		} else if m.up {
			want = m.crash(x, y)
		}
	case what == 1:
		got = d.Cut(x * 3)
		if m.up && (x < 0 || x*3 > len(m.all)) {
			want = api.ErrArg
		} else if m.up {
			want = m.done(x * 3)
		}
	case what < 4:
		got = d.Sync()
		if m.up {
			want = m.done(len(m.all))
		}
	default:
		got = d.Write(b)
		if m.up {
			m.all = append(m.all, b...)
			m.ends = append(m.ends, len(m.all))
		}
	}
	return got, want
}

// TestP6_1To6_4ByChance holds long lines of calls against the model.
func TestP6_1To6_4ByChance(t *testing.T) {
	c := rand.New(rand.NewSource(6))
	for range 3000 {
		d, m := New(), &model{up: true}
		for range 60 {
			got, want := both(c, d, m)
			isErr(t, got, want)
			is(t, d, m.all, m.synced, len(m.ends), m.up)
		}
	}
}

// TestP6_5Kept holds that what a crash leaves is a beginning of what was there, with all that was synced, and with as many whole writes as are kept.
func TestP6_5Kept(t *testing.T) {
	c := rand.New(rand.NewSource(5))
	for range 20000 {
		d := New()
		var ends []int // of writes that aren't synced, from what is synced on
		for range c.Intn(12) {
			ok(t, d.Write(chance(c, c.Intn(9))))
			ends = append(ends, len(d.Bytes()))
			if c.Intn(4) == 0 {
				ok(t, d.Sync())
				ends = nil
			}
		}
		ahead, synced, keep := d.Bytes(), d.Synced(), c.Intn(6)
		least := synced
		if n := min(keep, len(ends)); n > 0 {
			least = ends[n-1]
		}
		ok(t, d.Crash(keep, c.Intn(10)))
		if b := d.Bytes(); !bytes.HasPrefix(ahead, b) || len(b) < least || len(b) != d.Synced() {
			t.Fatalf("%v behind a crash, %v ahead of it, %d synced, at least %d", b, ahead, synced, least)
		}
	}
}

// TestP6_6WholeOrTorn holds that the next write behind those that are kept is never there wholly, and that there is nothing of those behind it.
func TestP6_6WholeOrTorn(t *testing.T) {
	for _, sizes := range sizeLists() {
		for keep := range sizes {
			end := 1 + sum(sizes[:keep+1])
			for _, torn := range numbers() {
				d := with(t, 1, sizes...)
				ok(t, d.Crash(keep, torn))
				if n := len(d.Bytes()); n > end || n == end && sizes[keep] > 0 {
					t.Fatalf("writes %v, %d kept, %d of the next: %d bytes, it ends at %d", sizes, keep, torn, n, end)
				}
			}
		}
	}
}
