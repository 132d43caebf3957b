package token

import (
	"bytes"
	"crypto/hmac"
	"crypto/sha256"
	"encoding/binary"
	"encoding/hex"
	"go/ast"
	"go/parser"
	gotoken "go/token"
	"math"
	"math/rand"
	"slices"
	"testing"

	"seneschal/api"
)

// The chapter's grants.
var (
	g = gr(3, 100, 1)
	h = gr(1, 50, 2)
)

// gr tells a grant.
func gr(r uint8, expiry, serial int) api.Grant {
	return api.Grant{Rights: r, Expiry: expiry, Serial: serial}
}

// sevens tells the chapter's key.
func sevens() []byte { return bytes.Repeat([]byte{7}, 32) }

// some tells bytes that are hardly ever the same at two places, and never end with a byte 0.
func some(n int) []byte {
	b := make([]byte, n)
	rand.New(rand.NewSource(int64(n))).Read(b)
	if n > 0 {
		b[n-1] |= 1
	}
	return b
}

// bytesOf tells the bytes of numbers, as another program puts them.
func bytesOf(l ...int) []byte {
	var b []byte
	for _, n := range l {
		b = binary.BigEndian.AppendUint64(b, uint64(n))
	}
	return b
}

// hashed tells the HMAC of numbers, as another program works it out.
func hashed(key []byte, l ...int) api.Tag {
	m := hmac.New(sha256.New, key)
	m.Write(bytesOf(l...))
	return api.Tag(m.Sum(nil))
}

// derived tells a tenant's key, as another program derives it of the root.
func derived(root []byte, tenant int) []byte {
	m := hmac.New(sha256.New, root)
	m.Write([]byte("tenant\x00"))
	m.Write(bytesOf(tenant))
	return m.Sum(nil)
}

// made tells the token of that tenant and line with the tag that it has under the key, whether it may be or not.
func made(key []byte, tenant int, line ...api.Grant) api.Token {
	var tag api.Tag
	for i, g := range line {
		if i == 0 {
			tag = hashed(key, tenant, int(g.Rights), g.Expiry, g.Serial)
		} else {
			tag = hashed(tag[:], int(g.Rights), g.Expiry, g.Serial)
		}
	}
	return api.Token{Tenant: tenant, Line: slices.Clone(line), Tag: tag}
}

// printed tells a token's bytes, whether it may be or not.
func printed(t api.Token) []byte {
	b := bytesOf(t.Tenant, len(t.Line))
	for _, g := range t.Line {
		b = append(b, bytesOf(int(g.Rights), g.Expiry, g.Serial)...)
	}
	return append(b, t.Tag[:]...)
}

// mayBe tells whether a token may be, as the chapters' words have it, with numbers that are written out.
func mayBe(t api.Token) bool {
	bad := slices.ContainsFunc(t.Line, func(g api.Grant) bool {
		return g.Rights > 15 || g.Expiry < 0 || g.Expiry > 1099511627776 || g.Serial < 1 || g.Serial > 1099511627776
	})
	return !bad && t.Tenant > -1 && t.Tenant < 9 && len(t.Line) > 0 && len(t.Line) < 5
}

// isSame tells whether two tokens are the same, number by number.
func isSame(a, b api.Token) bool { return bytes.Equal(printed(a), printed(b)) }

// isNothing tells whether that is the zero value of a token.
func isNothing(t api.Token) bool { return t.Tenant == 0 && t.Line == nil && t.Tag == api.Tag{} }

// copied tells a token that is the same, but shares nothing with it.
func copied(t api.Token) api.Token {
	t.Line = slices.Clone(t.Line)
	return t
}

// minted tells what is minted, and attenuated by each further grant.
func minted(t *testing.T, key []byte, tenant int, line ...api.Grant) api.Token {
	t.Helper()
	x, e := Mint(key, tenant, line[0])
	for _, g := range line[1:] {
		if e == api.OK {
			x, e = Attenuate(x, g)
		}
	}
	if e != api.OK {
		t.Fatalf("tenant %d, %v: error %d", tenant, line, e)
	}
	return x
}

// edges tells numbers at the edges of what a tenant, rights, an expiry and a serial may be, and at the ends of what an int holds.
func edges() []int {
	return []int{math.MinInt, math.MinInt + 1, -1 << 40, math.MinInt32, -256, -2, -1, 0, 1, 2, 3, 7, 8, 9, 10, 15, 16, 50, 255, 256, 257, 264, math.MaxInt32, 1 << 32, 1<<32 + 1, 1<<40 - 1, 1 << 40, 1<<40 + 1, 1 << 41, 1 << 56, math.MaxInt - 1, math.MaxInt}
}

// badGrants tells grants that may not be, each by one field.
func badGrants() []api.Grant {
	return []api.Grant{{}, gr(16, 1, 1), gr(17, 1, 1), gr(255, 1, 1), gr(1, -1, 1), gr(1, 1<<40+1, 1), gr(1, math.MinInt, 1), gr(1, math.MaxInt, 1), gr(1, 1, 0), gr(1, 1, -1), gr(1, 1, 1<<40+1), gr(1, 1, math.MinInt), gr(1, 1, math.MaxInt)}
}

// someGrant tells a grant by chance that may be.
func someGrant(c *rand.Rand) api.Grant {
	g := gr(uint8(c.Intn(16)), c.Intn(200), 1+c.Intn(100))
	switch c.Intn(8) {
	case 0:
		g.Expiry = 1 << 40
	case 1:
		g.Serial = 1 << 40
	case 2:
		g.Expiry, g.Serial = c.Intn(1<<40+1), 1+c.Intn(1<<40)
	}
	return g
}

// someLine tells a line by chance.
func someLine(c *rand.Rand) []api.Grant {
	l := []api.Grant{someGrant(c)}
	for range c.Intn(4) {
		l = append(l, someGrant(c))
	}
	return l
}

// badTokens tells tokens that may not be, with the tags that they would have under the key.
func badTokens(key []byte) []api.Token {
	l := []api.Token{{}, {Tenant: 1}, {Line: []api.Grant{}}, made(key, -1, g), made(key, 9, g), made(key, 9, g, h), made(key, math.MinInt, g), made(key, math.MaxInt, g), made(key, 256, g), made(key, 2, g, g, g, g, g), made(key, 2, slices.Repeat([]api.Grant{g}, 257)...), made(key, 2, slices.Repeat([]api.Grant{h}, 260)...)}
	for _, bad := range badGrants() {
		l = append(l, made(key, 2, bad), made(key, 2, g, bad), made(key, 2, bad, h), made(key, 2, g, g, g, bad), made(key, 2, g, h, bad, g))
	}
	return l
}

// checks holds what Check tells, and Verify of what any line leaves.
func checks(t *testing.T, name string, key []byte, x api.Token, want api.Errno) {
	t.Helper()
	if e := Check(key, x); e != want {
		t.Fatalf("%s: Check of %v: error %d, not %d", name, x, e, want)
	}
	for _, now := range []int{math.MinInt, -1, 1 << 41, math.MaxInt} {
		for _, need := range []uint8{0, 15, 16, 255} {
			if e := Verify(key, x, now, need); want != api.OK && e != want {
				t.Fatalf("%s: Verify of %v at %d for %d: error %d, not %d", name, x, now, need, e, want)
			}
		}
	}
}

// verifies holds what Verify tells.
func verifies(t *testing.T, key []byte, x api.Token, now int, need uint8, want api.Errno) {
	t.Helper()
	if e := Verify(key, x, now, need); e != want {
		t.Fatalf("Verify of %v at %d for %d: error %d, not %d", x, now, need, e, want)
	}
}

// noToken holds that bytes are none of a token.
func noToken(t *testing.T, name string, b []byte) {
	t.Helper()
	if x, e := Parse(b); !isNothing(x) || e != api.ErrToken {
		t.Fatalf("%s: %v of %v, error %d", name, x, b, e)
	}
}

// TestP9_1Examples holds minted tokens' tags to what Python's hmac and OpenSSL tell of them.
func TestP9_1Examples(t *testing.T) {
	for _, c := range []struct {
		key    []byte
		tenant int
		g      api.Grant
		tag    string
	}{
		{sevens(), 2, g, "6527e34a7e83bfe6f905e90b939e4ac9b9659208fe8431718075cc54644b571f"},
		{derived(bytes.Repeat([]byte{1}, 32), 0), 0, gr(15, 1<<40, 1), "d4cced2b0d6b0284a9e2f46dc5f6d5ce92437c26c575063d84a073cc8a184f07"},
	} {
		x, e := Mint(c.key, c.tenant, c.g)
		if e != api.OK || x.Tenant != c.tenant || !slices.Equal(x.Line, []api.Grant{c.g}) || hex.EncodeToString(x.Tag[:]) != c.tag {
			t.Errorf("tenant %d, %v: %v, %x, error %d", c.tenant, c.g, x, x.Tag, e)
		}
	}
	if x, e := Mint(sevens(), 9, g); !isNothing(x) || e != api.ErrArg {
		t.Errorf("tenant 9: %v, error %d", x, e)
	}
	if x, e := Mint(sevens(), 2, gr(3, 100, 0)); !isNothing(x) || e != api.ErrArg {
		t.Errorf("serial 0: %v, error %d", x, e)
	}
}

// TestP9_1EachEdge holds it of tenants, rights, expiries and serials at the edges.
func TestP9_1EachEdge(t *testing.T) {
	for _, tenant := range edges() {
		for _, r := range []uint8{0, 1, 7, 15, 16, 128, 255} {
			for _, expiry := range edges() {
				for _, serial := range []int{math.MinInt, -1, 0, 1, 2, 1 << 40, 1<<40 + 1, math.MaxInt} {
					want := made(sevens(), tenant, gr(r, expiry, serial))
					x, e := Mint(sevens(), tenant, gr(r, expiry, serial))
					if mayBe(want) && (e != api.OK || !isSame(x, want)) || !mayBe(want) && (e != api.ErrArg || !isNothing(x)) {
						t.Fatalf("%v: %v, error %d", want, x, e)
					}
				}
			}
		}
	}
}

// TestP9_1EachTenant holds it of all tenants that there are, and of their neighbours.
func TestP9_1EachTenant(t *testing.T) {
	for tenant := -300; tenant <= 600; tenant++ {
		x, e := Mint(sevens(), tenant, g)
		if ok := tenant >= 0 && tenant <= 8; ok != (e == api.OK) || !ok && e != api.ErrArg || ok && !isSame(x, made(sevens(), tenant, g)) {
			t.Errorf("tenant %d: %v, error %d", tenant, x, e)
		}
	}
}

// TestP9_1EachKey holds it under keys of all lengths, nil and empty ones too.
func TestP9_1EachKey(t *testing.T) {
	for n := range 200 {
		if x := minted(t, some(n), 3, g); !isSame(x, made(some(n), 3, g)) {
			t.Errorf("key of %d bytes: %v", n, x)
		}
	}
	if x := minted(t, nil, 3, g); !isSame(x, made([]byte{}, 3, g)) {
		t.Errorf("no key: %v", x)
	}
}

// TestP9_2Examples holds the tags of longer and longer lines to what Python's hmac tells of them.
func TestP9_2Examples(t *testing.T) {
	x := minted(t, sevens(), 2, g)
	line := []api.Grant{g}
	for _, c := range []struct {
		g   api.Grant
		tag string
	}{
		{h, "5fc76ea61d56cdf8ef2f6d4feec75f52f01502b88792feefcf8b5f61e4cdf561"},
		{gr(0, 0, 1<<40), "d4278fcbd81e0b27d6fc8ee2ba69a131ab8fd014aefcb2a9b17d609b46c58278"},
		{gr(15, 1<<40, 1), "81965dfeda7c31b7a9f25e9c8258f0f1a0d7c31ee4444f3103026c82b5025fb3"},
	} {
		var e api.Errno
		x, e = Attenuate(x, c.g)
		line = append(line, c.g)
		if e != api.OK || x.Tenant != 2 || !slices.Equal(x.Line, line) || hex.EncodeToString(x.Tag[:]) != c.tag {
			t.Fatalf("%v: %v, %x, error %d", line, x, x.Tag, e)
		}
	}
	if more, e := Attenuate(x, h); !isNothing(more) || e != api.ErrFull {
		t.Errorf("a fifth grant: %v, error %d", more, e)
	}
}

// TestP9_2WhatMayNotBe holds that neither a token nor a grant that may not be is taken, and that this is told ahead of a line that is full.
func TestP9_2WhatMayNotBe(t *testing.T) {
	for _, x := range badTokens(sevens()) {
		for _, g := range append(badGrants(), g, h) {
			if more, e := Attenuate(x, g); !isNothing(more) || e != api.ErrArg {
				t.Fatalf("%v, and %v: %v, error %d", x, g, more, e)
			}
		}
	}
	for n := range 4 {
		x := made(sevens(), 2, slices.Repeat([]api.Grant{g}, n+1)...)
		for _, bad := range badGrants() {
			if more, e := Attenuate(x, bad); !isNothing(more) || e != api.ErrArg {
				t.Fatalf("%v, and %v: %v, error %d", x, bad, more, e)
			}
		}
		more, e := Attenuate(x, h)
		if full := n == 3; full != (e == api.ErrFull) || full != isNothing(more) || !full && e != api.OK {
			t.Errorf("%d grants, and one more: %v, error %d", n+1, more, e)
		}
	}
}

// TestP9_2WhateverTag holds that the new tag is made of the one that the token has, also if that isn't the right one.
func TestP9_2WhateverTag(t *testing.T) {
	c := rand.New(rand.NewSource(2))
	for range 2000 {
		x := api.Token{Tenant: c.Intn(9), Line: someLine(c)}
		if c.Intn(4) > 0 {
			c.Read(x.Tag[:])
		}
		g := someGrant(c)
		more, e := Attenuate(x, g)
		if len(x.Line) == 4 {
			if e != api.ErrFull || !isNothing(more) {
				t.Fatalf("%v, and %v: %v, error %d", x, g, more, e)
			}
			continue
		}
		want := api.Token{Tenant: x.Tenant, Line: append(slices.Clone(x.Line), g), Tag: hashed(x.Tag[:], int(g.Rights), g.Expiry, g.Serial)}
		if e != api.OK || !isSame(more, want) {
			t.Fatalf("%v, and %v: %v, error %d", x, g, more, e)
		}
	}
}

func TestP9_3Examples(t *testing.T) {
	a, b := minted(t, sevens(), 2, g), minted(t, sevens(), 2, g, h)
	if m, n := len(Print(a)), len(Print(b)); m != 72 || n != 96 {
		t.Errorf("%d, %d bytes, not 72, 96", m, n)
	}
	want := "\x00\x00\x00\x00\x00\x00\x00\x02" + "\x00\x00\x00\x00\x00\x00\x00\x02" +
		"\x00\x00\x00\x00\x00\x00\x00\x03" + "\x00\x00\x00\x00\x00\x00\x00\x64" + "\x00\x00\x00\x00\x00\x00\x00\x01" +
		"\x00\x00\x00\x00\x00\x00\x00\x01" + "\x00\x00\x00\x00\x00\x00\x00\x32" + "\x00\x00\x00\x00\x00\x00\x00\x02" + string(b.Tag[:])
	if got := Print(b); string(got) != want {
		t.Errorf("%v, not %v", got, []byte(want))
	}
	if x, e := Parse([]byte(want)); e != api.OK || !isSame(x, b) {
		t.Errorf("%v, error %d", x, e)
	}
}

// TestP9_3NoneOfWhatMayNotBe holds that a token that may not be has no bytes, and that what would be its bytes are none.
func TestP9_3NoneOfWhatMayNotBe(t *testing.T) {
	for _, x := range badTokens(sevens()) {
		if b := Print(x); len(b) != 0 {
			t.Errorf("%v: %v", x, b)
		}
		noToken(t, "one that may not be", printed(x))
	}
}

// TestP9_3EachField holds it of bytes that have, at the place of one number, each of those at the edges.
func TestP9_3EachField(t *testing.T) {
	for grants := 1; grants <= 4; grants++ {
		b := printed(made(sevens(), 2, []api.Grant{g, h, gr(15, 1<<40, 1<<40), gr(0, 0, 1)}[:grants]...))
		for at := 0; at < len(b)-32; at += 8 {
			for _, n := range edges() {
				x := bytes.Clone(b)
				copy(x[at:], bytesOf(n))
				ok := false
				switch {
				case at == 0:
					ok = n >= 0 && n <= 8
				case at == 8:
					ok = n == grants
				case at%24 == 16:
					ok = n >= 0 && n <= 15
				case at%24 == 0:
					ok = n >= 0 && n <= 1<<40
				default:
					ok = n >= 1 && n <= 1<<40
				}
				if !ok {
					noToken(t, "a field otherwise", x)
				} else if got, e := Parse(x); e != api.OK || !bytes.Equal(printed(got), x) {
					t.Fatalf("%d at %d of %d grants: %v, error %d", n, at, grants, got, e)
				}
			}
		}
	}
}

// TestP9_3EachLength holds that bytes with less or more, at whichever end, are none of a token; so are those whose count isn't how many there are.
func TestP9_3EachLength(t *testing.T) {
	noToken(t, "nothing", nil)
	for grants := 1; grants <= 4; grants++ {
		b := printed(made(sevens(), 2, slices.Repeat([]api.Grant{g}, grants)...))
		for cut := range b {
			noToken(t, "the end cut off", b[:cut])
			noToken(t, "the beginning cut off", b[cut+1:])
			noToken(t, "a byte less", slices.Delete(bytes.Clone(b), cut, cut+1))
			noToken(t, "a byte more", slices.Insert(bytes.Clone(b), cut, b[cut]))
		}
		for more := 1; more < 100; more++ {
			noToken(t, "bytes 0 behind it", append(bytes.Clone(b), make([]byte, more)...))
			noToken(t, "bytes behind it", append(bytes.Clone(b), some(more)...))
		}
		for _, n := range append(edges(), 4, 5, 6, 1<<61, 1<<60, -1<<61, 1<<61+1, 1<<59+grants) { // 24 times some of these wraps round
			x := bytes.Clone(b)
			copy(x[8:], bytesOf(n))
			if n != grants {
				noToken(t, "another count", x)
			}
		}
	}
	for n := range 300 {
		noToken(t, "bytes 0", make([]byte, n))
		noToken(t, "bytes 255", bytes.Repeat([]byte{255}, n))
		noToken(t, "bytes 1", bytes.Repeat([]byte{1}, n))
	}
	noToken(t, "many bytes", make([]byte, 1<<20))
}

func TestP9_4Examples(t *testing.T) {
	a, b := minted(t, sevens(), 2, g), minted(t, sevens(), 2, g, h)
	checks(t, "of g", sevens(), a, api.OK)
	checks(t, "of g, and h", sevens(), b, api.OK)
	for _, c := range []struct {
		x    api.Token
		now  int
		need uint8
		want api.Errno
	}{
		{a, 99, api.RWrite, api.OK}, {a, 99, api.RRead | api.RWrite, api.OK}, {a, 100, api.RWrite, api.ErrExpired}, {a, 99, api.RList, api.ErrRight},
		{b, 49, api.RRead, api.OK}, {b, 49, api.RWrite, api.ErrRight}, {b, 50, api.RRead, api.ErrExpired}, {b, 50, api.RWrite, api.ErrExpired},
	} {
		verifies(t, sevens(), c.x, c.now, c.need, c.want)
	}
	other, less := copied(b), copied(b)
	other.Tenant, less.Line = 3, less.Line[:1]
	checks(t, "with Tenant 3", sevens(), other, api.ErrTag)
	checks(t, "without h", sevens(), less, api.ErrTag)
}

// TestP9_4WhatMayNotBe holds that of a token that may not be ErrToken is told, whether the tag would be right or not.
func TestP9_4WhatMayNotBe(t *testing.T) {
	for _, x := range badTokens(sevens()) {
		checks(t, "may not be", sevens(), x, api.ErrToken)
		checks(t, "may not be, under another key", some(9), x, api.ErrToken)
		x.Tag[31] ^= 1
		checks(t, "may not be, with another tag", sevens(), x, api.ErrToken)
	}
}

// TestP9_4TheFirstError holds in which order errors are told.
func TestP9_4TheFirstError(t *testing.T) {
	x := made(sevens(), 2, gr(3, 100, 1), gr(3, 90, 2))
	wrong := copied(x)
	wrong.Tag[0] ^= 128
	for _, c := range []struct {
		x    api.Token
		now  int
		need uint8
		want api.Errno
	}{
		{wrong, 90, 4, api.ErrTag}, {wrong, 89, 4, api.ErrTag}, {wrong, 90, 1, api.ErrTag}, {wrong, 89, 1, api.ErrTag},
		{x, 90, 4, api.ErrExpired}, {x, 90, 1, api.ErrExpired}, {x, 89, 4, api.ErrRight}, {x, 89, 1, api.OK},
	} {
		verifies(t, sevens(), c.x, c.now, c.need, c.want)
	}
}

// TestP9_4EachNow holds at which clocks a token is expired, whatever its other grants' expiries are.
func TestP9_4EachNow(t *testing.T) {
	clocks := []int{0, 1, 2, 49, 50, 51, 1<<40 - 1, 1 << 40}
	for _, a := range clocks {
		for _, b := range clocks {
			x := made(sevens(), 2, gr(15, a, 1), gr(15, b, 2))
			least := min(a, b)
			for _, now := range append(edges(), least-1, least, least+1, max(a, b)-1, max(a, b)) {
				want := api.ErrExpired
				if least > now {
					want = api.OK
				}
				verifies(t, sevens(), x, now, api.RWrite, want)
			}
		}
	}
}

// TestP9_4EachNeed holds it of all rights of a line, and all that may be needed, those above 15 too.
func TestP9_4EachNeed(t *testing.T) {
	for r := range uint8(16) {
		for other := range uint8(16) {
			x := made(sevens(), 2, gr(r, 100, 1), gr(other, 100, 2))
			for need := range 256 {
				want := api.ErrRight
				if need|int(r&other) == int(r&other) {
					want = api.OK
				}
				verifies(t, sevens(), x, 99, uint8(need), want)
			}
		}
	}
}

// isTag tells whether an expression is a token's tag.
func isTag(x ast.Expr) bool {
	field, ok := x.(*ast.SelectorExpr)
	return ok && field.Sel.Name == "Tag"
}

// TestP9_4NoTimeTold holds by the text what no answer shows: that tags are compared by hmac.Same, that looks at all bytes.
func TestP9_4NoTimeTold(t *testing.T) {
	f, err := parser.ParseFile(gotoken.NewFileSet(), "token.go", nil, 0)
	if err != nil {
		t.Fatal(err)
	}
	calls := 0
	for _, d := range f.Decls {
		fn, ok := d.(*ast.FuncDecl)
		if !ok || fn.Name.Name != "Check" {
			continue
		}
		ast.Inspect(fn, func(n ast.Node) bool {
			if x, ok := n.(*ast.SelectorExpr); ok && x.Sel.Name == "Same" {
				if from, ok := x.X.(*ast.Ident); ok && from.Name == "hmac" {
					calls++
				}
			}
			if x, ok := n.(*ast.BinaryExpr); ok && (isTag(x.X) || isTag(x.Y)) {
				t.Errorf("Check holds a tag against something by %s", x.Op)
			}
			return true
		})
	}
	if calls != 1 {
		t.Errorf("%d calls of hmac.Same in Check", calls)
	}
}

func TestP9_5Examples(t *testing.T) {
	a, b := made(sevens(), 2, g), made(sevens(), 2, g, h)
	if !Same(a, copied(a)) || !Same(b, copied(b)) || Same(a, b) || Same(b, a) {
		t.Errorf("not the same, or two that are unlike the same")
	}
	if !Same(api.Token{}, api.Token{}) || Same(api.Token{}, a) || Same(a, api.Token{}) {
		t.Errorf("nothing: not the same as itself, or the same as others")
	}
}

// TestP9_5EachField holds that each field counts, each number of each grant, their order, and each bit of the tag; also of tokens that may not be.
func TestP9_5EachField(t *testing.T) {
	for _, x := range append(badTokens(sevens()), made(sevens(), 2, g), made(sevens(), 0, g, h, g, h)) {
		if !Same(x, copied(x)) {
			t.Errorf("%v: not the same", x)
		}
		for i, change := range changes(x) {
			if Same(x, change) || Same(change, x) {
				t.Errorf("%v, %v, at %d: the same", x, change, i)
			}
		}
	}
}

// changes tells tokens that are each unlike this one in one thing.
func changes(x api.Token) []api.Token {
	var l []api.Token
	change := func(by func(x *api.Token)) {
		other := copied(x)
		by(&other)
		if !isSame(x, other) { // an order may be the same the other way
			l = append(l, other)
		}
	}
	for _, by := range []int{1, -1, 256, 1 << 32} {
		change(func(x *api.Token) { x.Tenant += by })
		change(func(x *api.Token) { x.Tenant ^= by })
	}
	for i := range min(len(x.Line), 6) {
		for bit := range 8 {
			change(func(x *api.Token) { x.Line[i].Rights ^= 1 << bit })
		}
		for bit := range 41 {
			change(func(x *api.Token) { x.Line[i].Expiry ^= 1 << bit })
			change(func(x *api.Token) { x.Line[i].Serial ^= 1 << bit })
		}
		change(func(x *api.Token) { x.Line = slices.Delete(x.Line, i, i+1) })
		change(func(x *api.Token) { x.Line = slices.Insert(x.Line, i, x.Line[i]) })
		change(func(x *api.Token) { x.Line[i], x.Line[0] = x.Line[0], x.Line[i] })
		change(func(x *api.Token) { x.Line = x.Line[:i] })
		change(func(x *api.Token) { x.Line = x.Line[i:] })
	}
	change(func(x *api.Token) { x.Line = append(x.Line, gr(15, 1<<40, 1)) })
	change(func(x *api.Token) { x.Line = append(x.Line, api.Grant{}) })
	for bit := range 256 {
		change(func(x *api.Token) { x.Tag[bit/8] ^= 1 << (bit % 8) })
	}
	change(func(x *api.Token) { x.Tag = api.Tag{} })
	return l
}

// TestP9_5ByChance holds it of two tokens that have few numbers, and so are the same at times.
func TestP9_5ByChance(t *testing.T) {
	c := rand.New(rand.NewSource(5))
	few := func() api.Token {
		x := api.Token{Tenant: c.Intn(2)}
		for range c.Intn(3) {
			x.Line = append(x.Line, gr(uint8(c.Intn(2)), c.Intn(2), c.Intn(2)))
		}
		x.Tag[c.Intn(2)*31] = byte(c.Intn(2))
		return x
	}
	same := 0
	for range 50000 {
		a, b := few(), few()
		if Same(a, b) != isSame(a, b) {
			t.Fatalf("%v, %v: not %v", a, b, isSame(a, b))
		}
		if isSame(a, b) {
			same++
		}
	}
	if same < 100 {
		t.Errorf("only %d were the same", same)
	}
}

// TestP9_6MintedIsRight holds that what was minted, and attenuated however often, checks under its key, and verifies only what each of its grants allows.
func TestP9_6MintedIsRight(t *testing.T) {
	c := rand.New(rand.NewSource(6))
	for i := range 3000 {
		key := some(c.Intn(100))
		if i%3 == 0 {
			key = derived(sevens(), i)
		}
		line := someLine(c)
		x := minted(t, key, c.Intn(9), line...)
		checks(t, "minted", key, x, api.OK)
		last := line[len(line)-1].Expiry
		for _, now := range []int{c.Intn(200), last - 1, last, 0, 1 << 40} {
			need := uint8(c.Intn(16))
			dead := slices.ContainsFunc(line, func(g api.Grant) bool { return g.Expiry <= now })
			lacks := slices.ContainsFunc(line, func(g api.Grant) bool { return g.Rights&need != need })
			want := api.OK
			switch {
			case dead:
				want = api.ErrExpired
			case lacks:
				want = api.ErrRight
			}
			verifies(t, key, x, now, need, want)
		}
	}
}

// TestP9_7ChangedIsNot holds that a token with anything otherwise doesn't check, but for one that may not be, and that it doesn't under another key.
func TestP9_7ChangedIsNot(t *testing.T) {
	c := rand.New(rand.NewSource(7))
	for range 12 {
		x := minted(t, sevens(), c.Intn(9), someLine(c)...)
		for i, change := range changes(x) {
			want := api.ErrTag
			if !mayBe(change) {
				want = api.ErrToken
			}
			if e := Check(sevens(), change); e != want {
				t.Fatalf("%v, %v, at %d: error %d, not %d", x, change, i, e, want)
			}
			if e := Verify(sevens(), change, -1, 0); e != want {
				t.Fatalf("%v, %v, at %d: Verify: error %d, not %d", x, change, i, e, want)
			}
		}
		for bit := range 256 {
			key := sevens()
			key[bit/8] ^= 1 << (bit % 8)
			checks(t, "another key", key, x, api.ErrTag)
		}
		for _, key := range [][]byte{nil, {}, sevens()[1:], append(sevens(), 1), x.Tag[:]} {
			checks(t, "another key", key, x, api.ErrTag)
		}
	}
}

// TestP9_7NoWayBack holds that with what a token shows no wider one is made: the tags ahead aren't to be had of it, nor does its own tag do as a key.
func TestP9_7NoWayBack(t *testing.T) {
	x := minted(t, sevens(), 2, gr(15, 100, 1), gr(1, 50, 2))
	for _, forged := range []api.Token{
		{Tenant: 2, Line: []api.Grant{gr(15, 100, 1)}, Tag: x.Tag},
		{Tenant: 2, Line: []api.Grant{gr(1, 50, 2)}, Tag: x.Tag},
		{Tenant: 2, Line: []api.Grant{gr(15, 100, 1), gr(15, 100, 2)}, Tag: x.Tag},
		{Tenant: 2, Line: []api.Grant{gr(15, 100, 1), gr(15, 100, 2)}, Tag: hashed(x.Tag[:], 15, 100, 2)},
		{Tenant: 2, Line: []api.Grant{gr(15, 100, 1)}, Tag: hashed(nil, 2, 15, 100, 1)},
		{Tenant: 2, Line: []api.Grant{gr(15, 100, 1)}, Tag: hashed(x.Tag[:], 2, 15, 100, 1)},
		{Tenant: 3, Line: []api.Grant{gr(15, 100, 1), gr(1, 50, 2)}, Tag: x.Tag},
		{Tenant: 2, Line: []api.Grant{gr(1, 50, 2), gr(15, 100, 1)}, Tag: x.Tag},
		{Tenant: 2, Line: []api.Grant{gr(15, 100, 1), gr(1, 50, 2)}},
	} {
		checks(t, "forged", sevens(), forged, api.ErrTag)
	}
	wrong := copied(x)
	wrong.Tag[5]++
	more, e := Attenuate(wrong, gr(1, 40, 3))
	if e != api.OK {
		t.Fatalf("error %d", e)
	}
	checks(t, "made of a tag that isn't right", sevens(), more, api.ErrTag)
}

// TestP9_7OtherTenant holds that under its own key a tenant's grant is another token than another tenant's.
func TestP9_7OtherTenant(t *testing.T) {
	seen := map[api.Tag]bool{}
	for tenant := range 9 {
		x := minted(t, sevens(), tenant, g)
		seen[x.Tag] = true
		for other := range 9 {
			want := api.ErrTag
			if other == tenant {
				want = api.OK
			}
			x.Tenant = other
			checks(t, "a tenant", sevens(), x, want)
		}
	}
	if len(seen) != 9 {
		t.Errorf("%d tags, not 9", len(seen))
	}
}

// TestP9_8ThereAndBack holds that a token that may be is read from its bytes as it was, whatever tag it has.
func TestP9_8ThereAndBack(t *testing.T) {
	c := rand.New(rand.NewSource(8))
	for range 5000 {
		x := api.Token{Tenant: c.Intn(9), Line: someLine(c)}
		c.Read(x.Tag[:])
		b := Print(x)
		if !bytes.Equal(b, printed(x)) {
			t.Fatalf("%v: %v", x, b)
		}
		if back, e := Parse(b); e != api.OK || !isSame(back, x) || !Same(back, x) {
			t.Fatalf("%v: read as %v, error %d", x, back, e)
		}
	}
	for tenant := range 9 {
		for r := range uint8(16) {
			for _, n := range []int{1, 2, 255, 256, 1 << 32, 1<<40 - 1, 1 << 40} {
				x := made(sevens(), tenant, gr(r, n-1, n), gr(15-r, n, 1))
				if back, e := Parse(Print(x)); e != api.OK || !isSame(back, x) {
					t.Fatalf("%v: read as %v, error %d", x, back, e)
				}
			}
		}
	}
}

// TestP9_8EachByte holds that bytes that are read are those of what was read: with each byte each other one.
func TestP9_8EachByte(t *testing.T) {
	for _, x := range []api.Token{made(sevens(), 2, g), made(sevens(), 2, g, h)} {
		b := Print(x)
		for at := range b {
			for by := 1; by < 256; by++ {
				b[at] ^= byte(by)
				got, e := Parse(b)
				if e == api.OK && (!mayBe(got) || !bytes.Equal(printed(got), b) || !bytes.Equal(Print(got), b)) || e != api.OK && (e != api.ErrToken || !isNothing(got)) {
					t.Fatalf("%v: %v, error %d", b, got, e)
				}
				if e != api.OK && at >= len(b)-32 {
					t.Fatalf("%v: another tag isn't read: error %d", b, e)
				}
				b[at] ^= byte(by)
			}
		}
	}
}
