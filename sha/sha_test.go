package sha

import (
	"bytes"
	"crypto/sha256"
	"encoding/hex"
	"math/rand"
	"strings"
	"testing"

	"seneschal/api"
)

// sizes tells lengths at and around the ends of blocks, and where the message's end just fits a block or no more.
func sizes() []int {
	return []int{0, 1, 2, 3, 7, 8, 54, 55, 56, 57, 62, 63, 64, 65, 66, 118, 119, 120, 121, 127, 128, 129, 183, 184, 191, 192, 193, 1000}
}

// some tells bytes that are hardly ever the same at two places.
func some(n int) []byte {
	b := make([]byte, n)
	rand.New(rand.NewSource(int64(n))).Read(b)
	return b
}

// want tells a message's tag as another program works it out.
func want(b []byte) api.Tag { return sha256.Sum256(b) }

// must tells the tag of a hash that was made.
func must(t *testing.T, h *Hash) api.Tag {
	t.Helper()
	x, e := h.Sum()
	if e != api.OK {
		t.Fatalf("Sum: error %d", e)
	}
	return x
}

// put writes bytes to a hash that was made.
func put(t *testing.T, h *Hash, b []byte) {
	t.Helper()
	if e := h.Write(b); e != api.OK {
		t.Fatalf("Write of %d bytes: error %d", len(b), e)
	}
}

// known tells messages with their tags, as the chapter, and what is given out with FIPS 180-4, say.
func known() []struct{ message, tag string } {
	return []struct{ message, tag string }{
		{"", "e3b0c44298fc1c149afbf4c8996fb92427ae41e4649b934ca495991b7852b855"},
		{"abc", "ba7816bf8f01cfea414140de5dae2223b00361a396177a9cb410ff61f20015ad"},
		{"abcdbcdecdefdefgefghfghighijhijkijkljklmklmnlmnomnopnopq", "248d6a61d20638b8e5c026930c3e6039a33ce45964ff2167f6ecedd419db06c1"},
		{"abcdefghbcdefghicdefghijdefghijkefghijklfghijklmghijklmnhijklmnoijklmnopjklmnopqklmnopqrlmnopqrsmnopqrstnopqrstu", "cf5b16a778af8380036ce59e7b0492370b249b11e8f07a51afac45037afee9d1"},
		{strings.Repeat("a", 1000000), "cdc76e5c9914fb9281a1c7e284d73e67f1809a48a497200e046d39ccc7112cd0"},
	}
}

func TestP2_1Examples(t *testing.T) {
	for _, c := range known() {
		x := Sum([]byte(c.message))
		if got := hex.EncodeToString(x[:]); got != c.tag {
			t.Errorf("%.20q, %d bytes: %s, not %s", c.message, len(c.message), got, c.tag)
		}
	}
}

func TestP2_1EachLength(t *testing.T) {
	for n := range 400 {
		for _, b := range [][]byte{some(n), make([]byte, n), bytes.Repeat([]byte{0xff}, n), bytes.Repeat([]byte{0x80}, n)} {
			if got := Sum(b); got != want(b) {
				t.Fatalf("%d bytes, %.8x..: %x, not %x", n, b, got, want(b))
			}
		}
	}
	for _, n := range []int{4095, 4096, 8183, 8184, 8191, 8192, 8193, 65535, 65536, 1<<21 - 9, 1 << 21} {
		if got := Sum(some(n)); got != want(some(n)) {
			t.Fatalf("%d bytes: %x", n, got)
		}
	}
}

// TestP2_1EachBitCounts holds that a message of which one bit is otherwise, or that has a byte 0 more, has another tag.
func TestP2_1EachBitCounts(t *testing.T) {
	for _, n := range []int{1, 55, 56, 64, 120} {
		seen := map[api.Tag]bool{Sum(some(n)): true, Sum(append(some(n), 0)): true, Sum(append(some(n), 0x80)): true}
		for bit := range 8 * n {
			b := some(n)
			b[bit/8] ^= 1 << (bit % 8)
			seen[Sum(b)] = true
		}
		if len(seen) != 8*n+3 {
			t.Errorf("%d bytes: %d tags, not %d", n, len(seen), 8*n+3)
		}
	}
}

// TestP2_1Blocks holds that all whole blocks are told, in order, each with its own numbers, and that they may be left early.
func TestP2_1Blocks(t *testing.T) {
	b := make([]byte, 4*size-1)
	for i := range b {
		b[i] = byte(i)
	}
	for most := range 4 {
		n := 0
		for w := range blocks(b) {
			if n == most {
				break
			}
			for i, x := range w {
				at := byte(size*n + 4*i)
				if x != uint32(at)<<24|uint32(at+1)<<16|uint32(at+2)<<8|uint32(at+3) {
					t.Errorf("block %d, number %d: %08x", n, i, x)
				}
			}
			n++
		}
		if n != most {
			t.Errorf("%d blocks, not %d", n, most)
		}
	}
}

func TestP2_2NewHasNoBytes(t *testing.T) {
	h := New()
	if h == nil {
		t.Fatal("New: nil")
	}
	if h.Len() != 0 || must(t, h) != Sum(nil) {
		t.Errorf("%d bytes, %x", h.Len(), must(t, h))
	}
}

func TestP2_2WriteBehindTheOthers(t *testing.T) {
	h := New()
	var all []byte
	for _, n := range sizes() {
		put(t, h, some(n))
		all = append(all, some(n)...)
		if h.Len() != len(all) || must(t, h) != want(all) {
			t.Fatalf("behind %d bytes, %d of them new: Len %d, %x, not %x", len(all), n, h.Len(), must(t, h), want(all))
		}
	}
	a, b := New(), New()
	put(t, a, []byte{1})
	put(t, a, []byte{2})
	put(t, b, []byte{2})
	put(t, b, []byte{1})
	if must(t, a) != want([]byte{1, 2}) || must(t, b) != want([]byte{2, 1}) {
		t.Errorf("pieces in another order")
	}
}

func TestP2_2Examples(t *testing.T) {
	for _, c := range known() {
		h := New()
		put(t, h, []byte(c.message))
		x := must(t, h)
		if got := hex.EncodeToString(x[:]); got != c.tag || h.Len() != len(c.message) {
			t.Errorf("%.20q, %d bytes: %s, not %s", c.message, h.Len(), got, c.tag)
		}
	}
}

// TestP2_2LengthOf64Bits holds that how many bits a message has counts beyond 2^32.
func TestP2_2LengthOf64Bits(t *testing.T) {
	h, other := New(), sha256.New()
	piece := some(1 << 20)
	for range 1 << 9 {
		put(t, h, piece)
		other.Write(piece)
	}
	if got := must(t, h); got != api.Tag(other.Sum(nil)) || h.Len() != 1<<29 {
		t.Errorf("%d bytes: %x", h.Len(), got)
	}
}

func TestP2_2SideBySide(t *testing.T) {
	for _, n := range sizes() {
		a, b := New(), New()
		x, y := some(n), some(n+1)
		for i := range max(len(x), len(y)) {
			put(t, a, x[min(i, n):min(i+1, n)])
			put(t, b, y[i:i+1])
			if a.Len() != min(i+1, n) || b.Len() != i+1 {
				t.Fatalf("Len %d, %d behind %d pieces", a.Len(), b.Len(), i+1)
			}
		}
		if must(t, a) != want(x) || must(t, b) != want(y) || must(t, New()) != want(nil) {
			t.Errorf("%d bytes: two hashes know of each other", n)
		}
	}
}

func TestP2_3CutAnywhere(t *testing.T) {
	for _, n := range sizes() {
		b := some(n)
		for i := range n + 1 {
			h := New()
			put(t, h, b[:i])
			put(t, h, b[i:])
			if h.Len() != n || must(t, h) != Sum(b) {
				t.Fatalf("%d bytes, cut at %d: Len %d, %x", n, i, h.Len(), must(t, h))
			}
		}
	}
	b := some(193)
	for i := 0; i <= len(b); i += 5 {
		for j := i; j <= len(b); j++ {
			h := New()
			put(t, h, b[:i])
			put(t, h, b[i:j])
			put(t, h, b[j:])
			if h.Len() != len(b) || must(t, h) != Sum(b) {
				t.Fatalf("cut at %d and %d: Len %d, %x", i, j, h.Len(), must(t, h))
			}
		}
	}
}

func TestP2_3PiecesOfOneSize(t *testing.T) {
	b := some(520)
	for size := 1; size <= 200; size++ {
		h := New()
		for at := 0; at < len(b); at += size {
			put(t, h, b[at:min(at+size, len(b))])
		}
		if h.Len() != len(b) || must(t, h) != Sum(b) {
			t.Fatalf("pieces of %d bytes: Len %d, %x", size, h.Len(), must(t, h))
		}
	}
}

func TestP2_3PiecesOfNoBytes(t *testing.T) {
	for _, n := range sizes() {
		h := New()
		for _, piece := range [][]byte{nil, some(n), {}, nil, some(n), some(9)[:0]} {
			put(t, h, piece)
		}
		if h.Len() != 2*n || must(t, h) != Sum(append(some(n), some(n)...)) {
			t.Errorf("twice %d bytes: Len %d", n, h.Len())
		}
	}
}

func TestP2_3CutByLot(t *testing.T) {
	r := rand.New(rand.NewSource(1))
	for range 500 {
		b := some(r.Intn(700))
		h := New()
		for rest := b; len(rest) > 0; {
			n := r.Intn(min(len(rest), 150) + 1)
			put(t, h, rest[:n])
			rest = rest[n:]
		}
		if h.Len() != len(b) || must(t, h) != Sum(b) {
			t.Fatalf("%d bytes: Len %d, %x", len(b), h.Len(), must(t, h))
		}
	}
}

func TestP2_4AskedInBetween(t *testing.T) {
	for _, n := range sizes() {
		b := some(n)
		asked, not := New(), New()
		for i := range n {
			for range 3 {
				if x := must(t, asked); x != want(b[:i]) || asked.Len() != i {
					t.Fatalf("%d bytes of %d: Len %d, %x", i, n, asked.Len(), x)
				}
			}
			put(t, asked, b[i:i+1])
			put(t, not, b[i:i+1])
		}
		for range 3 {
			if must(t, asked) != want(b) || asked.Len() != n {
				t.Errorf("%d bytes, asked: Len %d, %x", n, asked.Len(), must(t, asked))
			}
		}
		if must(t, not) != want(b) {
			t.Errorf("%d bytes, not asked: %x", n, must(t, not))
		}
	}
}
