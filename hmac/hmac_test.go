package hmac

import (
	"bytes"
	other "crypto/hmac"
	"crypto/sha256"
	"encoding/binary"
	"encoding/hex"
	"go/ast"
	"go/parser"
	"go/token"
	"math"
	"math/rand"
	"strings"
	"testing"

	"seneschal/api"
	"seneschal/sha"
)

// some tells bytes that are hardly ever the same at two places, and never end with a byte 0.
func some(n int) []byte {
	b := make([]byte, n)
	rand.New(rand.NewSource(int64(n))).Read(b)
	if n > 0 {
		b[n-1] |= 1
	}
	return b
}

// want tells an HMAC as another program works it out.
func want(key, b []byte) api.Tag {
	m := other.New(sha256.New, key)
	m.Write(b)
	return api.Tag(m.Sum(nil))
}

// summed tells the bytes of which a derived key is the HMAC.
func summed(label string, l ...int) []byte {
	b := append([]byte(label), 0)
	for _, n := range l {
		b = binary.BigEndian.AppendUint64(b, uint64(n))
	}
	return b
}

// known tells keys and bytes with their HMACs, as the chapter and RFC 4231 say.
func known() []struct {
	key, b []byte
	tag    string
} {
	rep := func(x byte, n int) []byte { return bytes.Repeat([]byte{x}, n) }
	count := make([]byte, 25)
	for i := range count {
		count[i] = byte(i + 1)
	}
	return []struct {
		key, b []byte
		tag    string
	}{
		{rep(0x0b, 20), []byte("Hi There"), "b0344c61d8db38535ca8afceaf0bf12b881dc200c9833da726e9376c2e32cff7"},
		{[]byte("Jefe"), []byte("what do ya want for nothing?"), "5bdcc146bf60754e6a042426089575c75a003f089d2739839dec58b964ec3843"},
		{rep(0xaa, 20), rep(0xdd, 50), "773ea91e36800e46854db8ebd09181a72959098b3ef8c122d9635514ced565fe"},
		{count, rep(0xcd, 50), "82558a389a443c0ea4cc819899f2083a85f0faa3e578f8077a2e3ff46729665b"},
		{rep(0xaa, 131), []byte("Test Using Larger Than Block-Size Key - Hash Key First"), "60e431591ee0b67f0d8a26aacbf5b77f8e0bc6213728c5140546040f0ee37f54"},
		{rep(0xaa, 131), []byte("This is a test using a larger than block-size key and a larger than block-size data. The key needs to be hashed before being used by the HMAC algorithm."), "9b09ffa71b942fcb27635fbcd5b0e944bfdc63644f0713938a7f51535c3a35e2"},
		{nil, nil, "b613679a0814d9ec772f95d778c35fc5ff1697c493715653c6c712144292c5ad"},
	}
}

func TestP3_1Examples(t *testing.T) {
	for _, c := range known() {
		x := Sum(c.key, c.b)
		if got := hex.EncodeToString(x[:]); got != c.tag {
			t.Errorf("key of %d bytes, %.20q: %s, not %s", len(c.key), c.b, got, c.tag)
		}
	}
}

// TestP3_1EachLength holds the HMAC of keys shorter than, as long as, and longer than a block, and of bytes around the ends of blocks.
func TestP3_1EachLength(t *testing.T) {
	for n := range 200 {
		for _, m := range []int{0, 1, 8, 31, 32, 54, 55, 56, 63, 64, 65, 119, 120, 128, 1000} {
			for _, key := range [][]byte{some(n), make([]byte, n), bytes.Repeat([]byte{0x36}, n), bytes.Repeat([]byte{0x5c}, n), bytes.Repeat([]byte{0xff}, n)} {
				if got := Sum(key, some(m)); got != want(key, some(m)) {
					t.Fatalf("key of %d bytes, %d bytes: %x, not %x", n, m, got, want(key, some(m)))
				}
			}
		}
	}
	for _, n := range []int{4095, 4096, 65536, 1 << 20} {
		if Sum(some(9), some(n)) != want(some(9), some(n)) || Sum(some(n), some(9)) != want(some(n), some(9)) {
			t.Errorf("%d bytes: not the HMAC", n)
		}
	}
}

// TestP3_1EachBitCounts holds that with one bit otherwise, of the key or of the bytes, the HMAC is another one.
func TestP3_1EachBitCounts(t *testing.T) {
	for _, n := range []int{1, 32, 63, 64, 65, 100} {
		seen := map[api.Tag]bool{Sum(some(n), some(40)): true}
		for bit := range 8 * n {
			key := some(n)
			key[bit/8] ^= 1 << (bit % 8)
			seen[Sum(key, some(40))] = true
		}
		for bit := range 8 * 40 {
			b := some(40)
			b[bit/8] ^= 1 << (bit % 8)
			seen[Sum(some(n), b)] = true
		}
		if len(seen) != 8*n+8*40+1 {
			t.Errorf("key of %d bytes: %d HMACs, not %d", n, len(seen), 8*n+8*40+1)
		}
	}
}

// TestP3_1KeyIsNoMessage holds that where the key ends, and the bytes begin, counts, and which of them is which.
func TestP3_1KeyIsNoMessage(t *testing.T) {
	b := some(130)
	seen := map[api.Tag]bool{Sum(b[64:], b[:64]): true}
	for cut := range len(b) + 1 {
		seen[Sum(b[:cut], b[cut:])] = true
	}
	if len(seen) != len(b)+2 {
		t.Errorf("%d HMACs, not %d", len(seen), len(b)+2)
	}
}

func TestP3_1Same(t *testing.T) {
	for _, a := range []api.Tag{{}, want(nil, nil), api.Tag(bytes.Repeat([]byte{0xff}, 32))} {
		b := a
		if !Same(a, b) || !Same(b, a) {
			t.Errorf("%x: not the same as itself", a)
		}
		for bit := range 8 * len(a) {
			b = a
			b[bit/8] ^= 1 << (bit % 8)
			if Same(a, b) || Same(b, a) {
				t.Errorf("%x: the same with bit %d otherwise", a, bit)
			}
		}
	}
	if Same(want(nil, nil), want(nil, some(1))) || !Same(Sum(some(70), some(9)), want(some(70), some(9))) {
		t.Errorf("HMACs: not told apart, or not the same")
	}
}

// TestP3_1SameOfTwoPlaces holds that what is unlike at two places, or at all of them, does not make up for each other.
func TestP3_1SameOfTwoPlaces(t *testing.T) {
	a := want(nil, nil)
	for _, x := range []byte{0x01, 0x80, 0xff, 0x55} {
		all := a
		for i := range a {
			all[i] ^= x
			for j := range i {
				b, c := a, a
				b[i], b[j] = b[i]^x, b[j]^x
				c[i], c[j] = c[i]+x, c[j]-x
				if Same(a, b) || Same(a, c) {
					t.Errorf("bytes %d and %d otherwise by %#x: the same", i, j, x)
				}
			}
		}
		if Same(a, all) {
			t.Errorf("all bytes otherwise by %#x: the same", x)
		}
	}
	b := a
	b[0], b[31] = b[31], b[0]
	if a[0] == a[31] || Same(a, b) {
		t.Errorf("the same with two bytes in each other's place")
	}
}

// written tells how a function of hmac.go is written.
func written(t *testing.T, name string) *ast.FuncDecl {
	t.Helper()
	f, err := parser.ParseFile(token.NewFileSet(), "hmac.go", nil, 0)
	if err != nil {
		t.Fatal(err)
	}
	for _, d := range f.Decls {
		if fn, ok := d.(*ast.FuncDecl); ok && fn.Name.Name == name {
			return fn
		}
	}
	t.Fatalf("no %s in hmac.go", name)
	return nil
}

// TestP3_1SameLooksAtAll holds by Same's text what no answer shows: that nothing in it hangs on where the first unlike byte is.
func TestP3_1SameLooksAtAll(t *testing.T) {
	returns, loops := 0, 0
	ast.Inspect(written(t, "Same"), func(n ast.Node) bool {
		switch x := n.(type) {
		case *ast.ReturnStmt:
			returns++
		case *ast.RangeStmt, *ast.ForStmt:
			loops++
		case *ast.IfStmt, *ast.SwitchStmt, *ast.BranchStmt:
			t.Errorf("Same goes ways that hang on the bytes")
		case *ast.BinaryExpr:
			if x.Op == token.LAND || x.Op == token.LOR {
				t.Errorf("Same leaves something out")
			}
		case *ast.SelectorExpr:
			if x.Sel.Name == "Same" || x.Sel.Name == "Equal" || x.Sel.Name == "Compare" {
				t.Errorf("Same calls %s, which may end early", x.Sel.Name)
			}
		}
		return true
	})
	if returns != 1 || loops != 1 {
		t.Errorf("%d returns, %d loops: not one loop over all bytes, and one end", returns, loops)
	}
}

// labels tells labels of all kinds, of which none holds a byte 0.
func labels() []string {
	return []string{"", "a", "b", "ab", "tenant", "link", "tenantlink", "Tenant", "tenant ", "abcdefgh", "abcdefghi", "\x01", "\xff", "\xff\xff\xff\xff\xff\xff\xff\xff", "\u00e9", strings.Repeat("x", 100)}
}

// lists tells lists of numbers of all kinds.
func lists() [][]int {
	return [][]int{
		nil, {0}, {1}, {-1}, {256}, {1 << 56}, {math.MaxInt}, {math.MinInt}, {math.MinInt + 1}, {0x6162636465666768}, {0, 0}, {0, 1}, {1, 0}, {1, 1},
		{1, 2, 3}, {3, 2, 1}, {1, 2}, {12, 3}, {-1, -1}, {-1, 0, 1}, make([]int, 9), {0x6162636465666768, 0x6162636465666768},
	}
}

func TestP3_2Derive(t *testing.T) {
	for _, n := range []int{0, 1, 32, 64, 65, 100} {
		for _, label := range labels() {
			for _, l := range lists() {
				x := want(some(n), summed(label, l...))
				if got := Derive(some(n), label, l...); !bytes.Equal(got, x[:]) {
					t.Errorf("key of %d bytes, %q, %d: %x, not %x", n, label, l, got, x)
				}
			}
		}
	}
	many := make([]int, 5000)
	for i := range many {
		many[i] = i * i
	}
	if x := want(some(32), summed("many", many...)); !bytes.Equal(Derive(some(32), "many", many...), x[:]) {
		t.Errorf("of many numbers: not the derived key")
	}
}

// TestP3_2Bytes holds which bytes are summed up, written out one by one.
func TestP3_2Bytes(t *testing.T) {
	for _, c := range []struct {
		got   []byte
		bytes string
	}{
		{Derive([]byte("k"), ""), "\x00"},
		{Derive([]byte("k"), "tenant", 3), "tenant\x00\x00\x00\x00\x00\x00\x00\x00\x03"},
		{Derive([]byte("k"), "tenant", 0x0102030405060708), "tenant\x00\x01\x02\x03\x04\x05\x06\x07\x08"},
		{Derive([]byte("k"), "a", -1), "a\x00\xff\xff\xff\xff\xff\xff\xff\xff"},
		{Derive([]byte("k"), "a", -2), "a\x00\xff\xff\xff\xff\xff\xff\xff\xfe"},
		{Derive([]byte("k"), "a", math.MinInt), "a\x00\x80\x00\x00\x00\x00\x00\x00\x00"},
		{Derive([]byte("k"), "a\x00b", 1), "a\x00b\x00\x00\x00\x00\x00\x00\x00\x00\x01"},
		{Derive([]byte("k"), "link", 8, 0, 2), "link\x00\x00\x00\x00\x00\x00\x00\x00\x08\x00\x00\x00\x00\x00\x00\x00\x00\x00\x00\x00\x00\x00\x00\x00\x02"},
	} {
		if x := want([]byte("k"), []byte(c.bytes)); !bytes.Equal(c.got, x[:]) {
			t.Errorf("%q: %x, not %x", c.bytes, c.got, x)
		}
	}
}

// TestP3_2OfAnyKey holds that a derived key is a key: others are derived of it.
func TestP3_2OfAnyKey(t *testing.T) {
	key := some(20)
	for i := range 5 {
		x := want(key, summed("next", i))
		key = Derive(key, "next", i)
		if len(key) != 32 || !bytes.Equal(key, x[:]) {
			t.Fatalf("%d times: %x, not %x", i+1, key, x)
		}
	}
}

// TestP3_3LongKeys holds that a key does as its tag does from 65 bytes on, and not ahead of that.
func TestP3_3LongKeys(t *testing.T) {
	for n := range 300 {
		x := sha.Sum(some(n))
		if same := Sum(some(n), some(9)) == Sum(x[:], some(9)); same != (n > 64) {
			t.Errorf("key of %d bytes: as its tag: %v", n, same)
		}
		if same := bytes.Equal(Derive(some(n), "a", 1), Derive(x[:], "a", 1)); same != (n > 64) {
			t.Errorf("derived, key of %d bytes: as its tag: %v", n, same)
		}
	}
}

// TestP3_3NoughtsBehind holds that bytes 0 behind a key count from 65 bytes on alone, and other bytes, or bytes 0 ahead of it, always.
func TestP3_3NoughtsBehind(t *testing.T) {
	for n := range 70 {
		key, b := some(n), some(9)
		for more := 1; more < 10 || n+more < 70; more++ {
			longer := append(some(n), make([]byte, more)...)
			if same := Sum(longer, b) == Sum(key, b); same != (n+more <= 64) {
				t.Errorf("key of %d bytes, %d bytes 0 behind: as itself: %v", n, more, same)
			}
			if same := bytes.Equal(Derive(longer, "a", 1), Derive(key, "a", 1)); same != (n+more <= 64) {
				t.Errorf("derived, key of %d bytes, %d bytes 0 behind: as itself: %v", n, more, same)
			}
			longer[n+more-1] = 1
			if Sum(longer, b) == Sum(key, b) {
				t.Errorf("key of %d bytes, %d bytes behind that aren't all 0: as itself", n, more)
			}
		}
		if n > 0 && Sum(append([]byte{0}, key...), b) == Sum(key, b) {
			t.Errorf("key of %d bytes, a byte 0 ahead: as itself", n)
		}
	}
}

// TestP3_4AllUnlike holds that with another key, label, or list of numbers another key is derived.
func TestP3_4AllUnlike(t *testing.T) {
	seen, n := map[string]bool{}, 0
	for _, key := range [][]byte{nil, some(1), some(32), some(64), some(65)} {
		for _, label := range labels() {
			for _, l := range lists() {
				seen[string(Derive(key, label, l...))] = true
				n++
			}
		}
	}
	if len(seen) != n {
		t.Errorf("%d derived keys, not %d", len(seen), n)
	}
}

// TestP3_4LabelIsNoNumber holds that what could be a label's bytes or a number's is told apart.
func TestP3_4LabelIsNoNumber(t *testing.T) {
	const abcdefgh = 0x6162636465666768
	for i, c := range [][2][]byte{
		{Derive(nil, "abcdefgh"), Derive(nil, "", abcdefgh)},
		{Derive(nil, "abcdefgh", 1), Derive(nil, "", abcdefgh, 1)},
		{Derive(nil, "x", abcdefgh), Derive(nil, "xabcdefgh")},
		{Derive(nil, "xabcdefgh", abcdefgh), Derive(nil, "x", abcdefgh, abcdefgh)},
		{Derive(nil, "a", 0), Derive(nil, "a")},
		{Derive(nil, "a", 0, 0), Derive(nil, "a", 0)},
		{Derive(nil, "a", 1, 2), Derive(nil, "a", 2, 1)},
		{Derive(nil, "a", 1, 11), Derive(nil, "a", 11, 1)},
		{Derive(nil, "tenant1"), Derive(nil, "tenant", 1)},
		{Derive(nil, "tenant", '1'), Derive(nil, "tenant", 1)},
		{Derive(nil, "ab"), Derive(nil, "a")},
		{Derive(nil, "a", -1), Derive(nil, "a", math.MaxInt)},
		{Derive(nil, "a", -1), Derive(nil, "a", math.MaxUint32)},
		{Derive(nil, "a", 1<<32), Derive(nil, "a", 0)},
	} {
		if bytes.Equal(c[0], c[1]) {
			t.Errorf("%d: the same key", i)
		}
	}
}

// TestP3_4NothingElse holds that what is derived does not hang on what was derived ahead, or how often, or where the bytes stand.
func TestP3_4NothingElse(t *testing.T) {
	first := Derive(some(32), "link", 1, 2, 3)
	for _, n := range []int{0, 20, 32, 64, 65} {
		for _, label := range labels() {
			Derive(some(n), label, 1, 2, 3)
			Sum(some(n), []byte(label))
			room := make([]byte, 200)
			copy(room[n:], some(32))
			if !bytes.Equal(Derive(room[n:n+32], "link", 1, 2, 3), first) {
				t.Fatalf("behind others: %x, not %x", Derive(some(32), "link", 1, 2, 3), first)
			}
		}
	}
	room := []int{9, 1, 2, 3, 9, 9}
	if !bytes.Equal(Derive(some(32), "link", room[1:4]...), first) {
		t.Errorf("numbers with room behind: another key")
	}
}
