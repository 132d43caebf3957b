package words

import (
	"bytes"
	"math"
	"math/big"
	"math/rand"
	"testing"
)

// numbers32 tells numbers whose bits stand at edges, each single bit, and some others.
func numbers32() []uint32 {
	l := []uint32{0, 1, 2, 5, 0x80000000, 0x80000001, 0x7fffffff, 0xffffffff, 0x01020304, 0x12345678, 0xdeadbeef}
	for i := range 32 {
		l = append(l, 1<<i)
	}
	r := rand.New(rand.NewSource(1))
	for range 50 {
		l = append(l, r.Uint32())
	}
	return l
}

func numbers64() []uint64 {
	l := []uint64{0, 1, 1<<56 | 9, 0x0102030405060708, 1<<63 - 1, 1 << 63, 1<<64 - 1}
	for i := range 64 {
		l = append(l, 1<<i)
	}
	r := rand.New(rand.NewSource(2))
	for range 50 {
		l = append(l, r.Uint64())
	}
	return l
}

// places tells ints for turns, moves and places: around 0, and at the ends of what an int holds.
func places() []int {
	l := []int{math.MinInt, math.MinInt + 1, math.MinInt + 31, math.MinInt32, -1 << 40, 1 << 40, math.MaxInt32, math.MaxInt - 8, math.MaxInt - 7, math.MaxInt - 4, math.MaxInt - 3, math.MaxInt - 1, math.MaxInt}
	for n := -100; n <= 100; n++ {
		l = append(l, n)
	}
	return l
}

// some tells bytes that are all different as far as may be, and none of them 0 in the first 255.
func some(n int) []byte {
	b := make([]byte, n)
	for i := range b {
		b[i] = byte(i%255 + 1)
	}
	return b
}

func TestP1_1Examples(t *testing.T) {
	for i, c := range []struct{ got, want uint32 }{
		{Rotr(1, 1), 0x80000000}, {Rotr(0x80000000, 33), 0x40000000}, {Rotr(2, -1), 4},
		{Rotr(0x12345678, 8), 0x78123456}, {Rotr(0x12345678, -8), 0x34567812},
		{Rotr(5, 0), 5}, {Rotr(5, 32), 5}, {Rotr(5, -32), 5}, {Rotr(5, 64), 5}, {Rotr(5, -33), 10},
		{Shr(0x80000000, 31), 1}, {Shr(1, 32), 0}, {Shr(5, -1), 5},
		{Shr(0x12345678, 8), 0x123456}, {Shr(5, 0), 5}, {Shr(0xffffffff, 31), 1}, {Shr(0xffffffff, 32), 0}, {Shr(0xffffffff, 33), 0},
		{Shr(0xffffffff, 64), 0}, {Shr(0xffffffff, 256), 0}, {Shr(0xffffffff, 1<<32), 0}, {Shr(7, math.MaxInt), 0}, {Shr(7, math.MinInt), 7}, {Shr(7, -32), 7}, {Shr(7, -256), 7},
	} {
		if c.got != c.want {
			t.Errorf("%d: %#x, not %#x", i, c.got, c.want)
		}
	}
}

// turned tells x turned bit by bit: bit i goes to the place i - n, modulo 32.
func turned(x uint32, n int) uint32 {
	var y uint32
	for i := range 32 {
		if x&(1<<i) != 0 {
			to := big.NewInt(int64(i))
			to.Sub(to, big.NewInt(int64(n))).Mod(to, big.NewInt(32)) // Mod is never below 0
			y |= 1 << to.Uint64()
		}
	}
	return y
}

func TestP1_1RotrBitByBit(t *testing.T) {
	for _, x := range numbers32() {
		for _, n := range places() {
			if got, want := Rotr(x, n), turned(x, n); got != want {
				t.Fatalf("Rotr(%#x, %d): %#x, not %#x", x, n, got, want)
			}
		}
	}
}

func TestP1_1ShrBitByBit(t *testing.T) {
	for _, x := range numbers32() {
		for _, n := range places() {
			want := x
			for i := 0; i < n && i < 32; i++ {
				want /= 2
			}
			if got := Shr(x, n); got != want {
				t.Fatalf("Shr(%#x, %d): %#x, not %#x", x, n, got, want)
			}
		}
	}
}

func TestP1_2Examples(t *testing.T) {
	if got := Put32(0x01020304); !bytes.Equal(got, []byte{1, 2, 3, 4}) {
		t.Errorf("Put32: %v", got)
	}
	if got := Put64(1<<56 | 9); !bytes.Equal(got, []byte{1, 0, 0, 0, 0, 0, 0, 9}) {
		t.Errorf("Put64: %v", got)
	}
	if got := Put32(0xfffefdfc); !bytes.Equal(got, []byte{0xff, 0xfe, 0xfd, 0xfc}) {
		t.Errorf("Put32: %v", got)
	}
	if got := Put32(0); !bytes.Equal(got, make([]byte, 4)) {
		t.Errorf("Put32 of 0: %v", got)
	}
	if got := Put64(0); !bytes.Equal(got, make([]byte, 8)) {
		t.Errorf("Put64 of 0: %v", got)
	}
	if x, ok := Load32(Put32(0x01020304), 0); x != 0x01020304 || !ok {
		t.Errorf("Load32 at 0: %#x %v", x, ok)
	}
	if x, ok := Load32(Put32(0x01020304), 1); x != 0 || ok {
		t.Errorf("Load32 at 1: %#x %v", x, ok)
	}
	if x, ok := Load64([]byte{0, 0, 0, 0, 0, 0, 0, 1}, 0); x != 1 || !ok {
		t.Errorf("Load64 at 0: %#x %v", x, ok)
	}
	if x, ok := Load32([]byte{0xff, 0xff, 0xff, 0xff}, 0); x != 0xffffffff || !ok {
		t.Errorf("Load32 of all ones: %#x %v", x, ok)
	}
	if x, ok := Load64(bytes.Repeat([]byte{0xff}, 8), 0); x != 1<<64-1 || !ok {
		t.Errorf("Load64 of all ones: %#x %v", x, ok)
	}
}

// loaded tells the number of so many bytes at a place, as its digits of base 256 say.
func loaded(b []byte, at, size int) (uint64, bool) {
	for i := range b {
		if i == at && len(b[i:]) >= size {
			return new(big.Int).SetBytes(b[i : i+size]).Uint64(), true
		}
	}
	return 0, false
}

func TestP1_2LoadAtEachPlace(t *testing.T) {
	all := some(30)
	lists := [][]byte{nil, {}}
	for n := range 20 {
		lists = append(lists, all[:n], all[:n:n]) // behind the first there is room with bytes that don't count
	}
	for _, b := range lists {
		for _, at := range places() {
			want, fits := loaded(b, at, 4)
			if x, ok := Load32(b, at); uint64(x) != want || ok != fits {
				t.Fatalf("Load32 of %d bytes at %d: %#x %v, not %#x %v", len(b), at, x, ok, want, fits)
			}
			want, fits = loaded(b, at, 8)
			if x, ok := Load64(b, at); x != want || ok != fits {
				t.Fatalf("Load64 of %d bytes at %d: %#x %v, not %#x %v", len(b), at, x, ok, want, fits)
			}
		}
	}
}

func TestP1_2PutIsTheDigits(t *testing.T) {
	for _, x := range numbers32() {
		if got, want := Put32(x), new(big.Int).SetUint64(uint64(x)).FillBytes(make([]byte, 4)); !bytes.Equal(got, want) {
			t.Fatalf("Put32(%#x): %v, not %v", x, got, want)
		}
	}
	for _, x := range numbers64() {
		if got, want := Put64(x), new(big.Int).SetUint64(x).FillBytes(make([]byte, 8)); !bytes.Equal(got, want) {
			t.Fatalf("Put64(%#x): %v, not %v", x, got, want)
		}
	}
}

func TestP1_3Cat(t *testing.T) {
	for i, c := range []struct {
		lists [][]byte
		want  []byte
	}{
		{nil, nil},
		{[][]byte{}, nil},
		{[][]byte{nil}, nil},
		{[][]byte{nil, {}, nil}, nil},
		{[][]byte{{1}, nil, {2, 3}}, []byte{1, 2, 3}},
		{[][]byte{{1}, {}, {2, 3}}, []byte{1, 2, 3}},
		{[][]byte{nil, {1}}, []byte{1}},
		{[][]byte{{1}, nil}, []byte{1}},
		{[][]byte{{2, 3}, {1}}, []byte{2, 3, 1}},
		{[][]byte{{0}, {0, 0}}, []byte{0, 0, 0}},
		{[][]byte{{255, 0}, {255}, {0}, {7, 7}}, []byte{255, 0, 255, 0, 7, 7}},
	} {
		if got := Cat(c.lists...); !bytes.Equal(got, c.want) {
			t.Errorf("%d: %v, not %v", i, got, c.want)
		}
	}
	if len(Cat()) != 0 {
		t.Errorf("of none")
	}
	a := []byte{1, 2}
	if got := Cat(a, a, a[1:]); !bytes.Equal(got, []byte{1, 2, 1, 2, 2}) {
		t.Errorf("one list more than once: %v", got)
	}
	if got, want := Cat(some(1000), some(300)), append(some(1000), some(300)...); !bytes.Equal(got, want) {
		t.Errorf("long ones: %d bytes", len(got))
	}
	if got := Cat(some(9)[:3], some(2)); !bytes.Equal(got, []byte{1, 2, 3, 1, 2}) {
		t.Errorf("what stands in the spare room doesn't count: %v", got)
	}
}

func TestP1_3Xor(t *testing.T) {
	for i, c := range []struct{ a, b, want []byte }{
		{nil, nil, nil}, {nil, []byte{}, nil}, {nil, []byte{1}, nil}, {[]byte{1}, nil, nil}, {[]byte{1, 2}, []byte{}, nil},
		{[]byte{1, 2, 3}, []byte{3, 3}, []byte{2, 1}}, {[]byte{3, 3}, []byte{1, 2, 3}, []byte{2, 1}},
		{[]byte{0xff, 0x0f, 0xaa}, []byte{0xff, 0xf0, 0x55}, []byte{0, 0xff, 0xff}},
		{[]byte{5, 6}, []byte{0, 0}, []byte{5, 6}}, {[]byte{6}, []byte{3}, []byte{5}},
		{some(9)[:2], some(9)[1:6], []byte{1 ^ 2, 2 ^ 3}}, // the room behind the first doesn't count
	} {
		if got := Xor(c.a, c.b); !bytes.Equal(got, c.want) {
			t.Errorf("%d: %v, not %v", i, got, c.want)
		}
	}
}

func TestP1_3Same(t *testing.T) {
	for i, c := range []struct {
		a, b []byte
		want bool
	}{
		{nil, nil, true}, {nil, []byte{}, true}, {[]byte{}, nil, true}, {[]byte{}, []byte{}, true},
		{nil, []byte{0}, false}, {[]byte{0}, nil, false},
		{[]byte{1}, []byte{1, 0}, false}, {[]byte{1, 0}, []byte{1}, false}, {[]byte{0, 1}, []byte{1}, false},
		{[]byte{1, 2}, []byte{3, 2}, false}, {[]byte{1, 2}, []byte{1, 3}, false}, {[]byte{1, 2}, []byte{2, 1}, false},
		{[]byte{1, 2}, []byte{1, 2}, true}, {some(300), some(300), true},
		{some(9)[:3], some(5)[:3:3], true}, {some(9)[:3], some(9)[:4], false},
	} {
		if got := Same(c.a, c.b); got != c.want {
			t.Errorf("%d: %v", i, got)
		}
	}
	for n := range 40 { // one bit otherwise, at each place
		for i := range n {
			for bit := range 8 {
				b := some(n)
				b[i] ^= 1 << bit
				if Same(some(n), b) || Same(b, some(n)) {
					t.Fatalf("%d bytes, bit %d of %d otherwise: the same", n, bit, i)
				}
			}
		}
	}
}

func TestP1_4ThereAndBack(t *testing.T) {
	for _, x := range numbers32() {
		for lead := range 5 {
			b := Cat(some(lead), Put32(x), some(3))
			if y, ok := Load32(b, lead); y != x || !ok {
				t.Fatalf("%#x comes back as %#x %v", x, y, ok)
			}
		}
	}
	for _, x := range numbers64() {
		for lead := range 5 {
			b := Cat(some(lead), Put64(x), some(3))
			if y, ok := Load64(b, lead); y != x || !ok {
				t.Fatalf("%#x comes back as %#x %v", x, y, ok)
			}
		}
	}
	r := rand.New(rand.NewSource(3))
	for range 200 {
		b := make([]byte, 12)
		r.Read(b)
		for at := range 5 {
			x, ok := Load32(b, at)
			y, too := Load64(b, at)
			if !ok || !too || !bytes.Equal(Put32(x), b[at:at+4]) || !bytes.Equal(Put64(y), b[at:at+8]) {
				t.Fatalf("%v at %d: %#x %#x", b, at, x, y)
			}
		}
	}
}

func TestP1_5Turns(t *testing.T) {
	for _, x := range numbers32() {
		for n := -70; n <= 70; n++ {
			for m := -70; m <= 70; m += 7 {
				if Rotr(Rotr(x, n), m) != Rotr(x, n+m) {
					t.Fatalf("%#x: %d and %d don't add up", x, n, m)
				}
			}
		}
		for _, n := range places() {
			if Rotr(Rotr(x, n), -n) != x {
				t.Fatalf("%#x: %d and back", x, n)
			}
		}
		for n := range 33 {
			left := x * uint32(1<<(32-n)) // the shift the other way, as what falls off at the greatest bit
			if Rotr(x, n) != Shr(x, n)|left {
				t.Fatalf("%#x turned by %d isn't two shifts together", x, n)
			}
		}
	}
}

func TestP1_6XorLeadsBack(t *testing.T) {
	r := rand.New(rand.NewSource(4))
	for n := range 70 {
		a, b := make([]byte, n), make([]byte, n)
		r.Read(a)
		r.Read(b)
		if !bytes.Equal(Xor(Xor(a, b), b), a) || !bytes.Equal(Xor(Xor(a, b), a), b) {
			t.Fatalf("%v %v: not back", a, b)
		}
		if !bytes.Equal(Xor(a, a), make([]byte, n)) {
			t.Fatalf("%v: not 0 with itself", a)
		}
	}
}
