package link

import (
	"bytes"
	"encoding/hex"
	"fmt"
	"math"
	"math/rand"
	"testing"

	"seneschal/api"
)

var root = []byte("the root")

func TestP19_1Examples(t *testing.T) {
	p := api.Packet{From: 0, To: 1, Epoch: 1, Boot: 0, Seqn: 1}
	for _, c := range []struct {
		from, to, seqn int
		want           bool
	}{{0, 1, 1, true}, {1, 1, 1, false}, {0, 5, 1, false}, {0, 1, 0, false}} {
		p.From, p.To, p.Seqn = c.from, c.to, c.seqn
		if May(p) != c.want {
			t.Errorf("%v: %v", p, !c.want)
		}
	}
	a, b, c := New(root, 0, 0), New(root, 1, 0), New(root, 2, 0)
	x, e := a.Send(1, 1, []byte("a"))
	y, f := a.Send(1, 1, []byte("a"))
	if e != 0 || f != 0 || bytes.Equal(x, y) {
		t.Fatalf("errors %d, %d", e, f)
	}
	other := bytes.Clone(x)
	other[len(other)-1]++
	for i, s := range []struct {
		ends *Ends
		b    []byte
		want api.Errno
		seqn int
	}{{b, x, 0, 1}, {b, x, 180, 0}, {b, y, 0, 2}, {c, x, 190, 0}, {b, other, 91, 0}, {b, []byte("x"), 190, 0}} {
		if p, e := s.ends.Get(s.b); e != s.want || p.Seqn != s.seqn || len(p.Body) != min(s.seqn, 1) {
			t.Errorf("%d: error %d, %v", i, e, p)
		}
	}
}

// TestP19_1Errors holds the errors' numbers.
func TestP19_1Errors(t *testing.T) {
	if api.ErrNil != none || api.ErrArg != wrong || api.ErrLong != long || api.ErrLink != notLink || api.ErrTag != notTag || api.ErrReplay != already {
		t.Errorf("%d %d %d %d %d %d", api.ErrNil, api.ErrArg, api.ErrLong, api.ErrLink, api.ErrTag, api.ErrReplay)
	}
	if api.MaxBytes != most || api.Gateway != 8 || api.Master != 9 || api.MaxNodes != 5 {
		t.Errorf("%d %d %d %d", api.MaxBytes, api.Gateway, api.Master, api.MaxNodes)
	}
}

// TestP19_1May holds who may be in a packet, and which numbers, each alone, and all together at few edges.
func TestP19_1May(t *testing.T) {
	holds := func(p api.Packet) {
		if May(p) != mayBe(p) {
			t.Fatalf("%v: %v", p, May(p))
		}
	}
	for _, from := range edges() {
		for _, to := range edges() {
			holds(api.Packet{From: from, To: to, Epoch: 1, Seqn: 1})
		}
	}
	for _, w := range append(pairs(), [2]int{0, 0}, [2]int{9, 9}, [2]int{7, 0}, [2]int{0, 5}, [2]int{-1, -1}) {
		for _, n := range edges() {
			holds(api.Packet{From: w[0], To: w[1], Epoch: n, Boot: 0, Seqn: 1})
			holds(api.Packet{From: w[0], To: w[1], Epoch: 1, Boot: n, Seqn: 1})
			holds(api.Packet{From: w[0], To: w[1], Epoch: 1, Boot: 0, Seqn: n})
		}
		for _, epoch := range few() {
			for _, boot := range few() {
				for _, seqn := range few() {
					holds(api.Packet{From: w[0], To: w[1], Epoch: epoch, Boot: boot, Seqn: seqn})
				}
			}
		}
	}
	if !May(api.Packet{From: 3, To: 8, Epoch: 1, Boot: 0, Seqn: 1}) || May(api.Packet{From: 3, To: 7, Epoch: 1, Boot: 0, Seqn: 1}) || May(api.Packet{}) {
		t.Error("by hand")
	}
}

// TestP19_1MayBodyAndTag holds that the body and the tag say nothing of whether a packet may be, however long the body is.
func TestP19_1MayBodyAndTag(t *testing.T) {
	c := rand.New(rand.NewSource(1))
	for range 50 {
		p := one(c)
		for _, n := range []int{0, 1, space, space + 1, room + 1, most + 1} {
			p.Body = make([]byte, n)
			if !May(p) || !May(Seal(root, p)) {
				t.Fatalf("%d bytes", n)
			}
		}
		if p.Seqn = 0; May(Seal(root, p)) {
			t.Fatalf("%v", p)
		}
	}
}

// TestP19_1KnownTags holds tags that were worked out elsewhere.
func TestP19_1KnownTags(t *testing.T) {
	for _, c := range []struct {
		root string
		p    api.Packet
		want string
	}{
		{"root", api.Packet{From: 0, To: 1, Epoch: 1, Boot: 0, Seqn: 1, Body: []byte("a")}, "5c08443e4d59c992634e53efcc92266077495f4f5e720842b04a7bd0b6889383"},
		{"the root", api.Packet{From: 9, To: 4, Epoch: 3, Boot: 2, Seqn: 70}, "db1a065ec6c7a597ee076e516ca43fc5ec033a899e77e21ffbfdb272997a940f"},
		{"", api.Packet{From: 8, To: 0, Epoch: 1 << 40, Boot: 0, Seqn: 1, Body: []byte("ab")}, "7591f444d0b60f302044f629fe539c1ea413bc3a052dc37d49d70d029952e055"},
		{"root", api.Packet{From: 0, To: 1, Epoch: 1, Boot: 0, Seqn: 1, Body: make([]byte, room+1)}, "5e089bc6fcd5f9d97f36600105a0f372774de55ab80ca53234a8938fb8a0ab21"},
	} {
		q := Seal([]byte(c.root), c.p)
		if x := hex.EncodeToString(q.Tag[:]); x != c.want || !Right([]byte(c.root), q) {
			t.Errorf("%.80v: %s", c.p, x)
		}
	}
	b, e := Print(Seal([]byte("root"), api.Packet{From: 0, To: 1, Epoch: 1, Boot: 0, Seqn: 1, Body: []byte("a")}))
	if want := "000000000000000000000000000000010000000000000001000000000000000000000000000000010000000161" + "5c08443e4d59c992634e53efcc92266077495f4f5e720842b04a7bd0b6889383"; e != 0 || hex.EncodeToString(b) != want {
		t.Errorf("error %d, %x", e, b)
	}
}

// isSealed holds what Seal and Right tell of a packet.
func isSealed(t *testing.T, root []byte, p api.Packet) {
	t.Helper()
	want := sealed(root, p)
	if q := Seal(root, p); !same(q, want) {
		t.Fatalf("Seal of %.200v by %x: %.300v, not %.300v", p, root, q, want)
	}
	if !Right(root, want) {
		t.Fatalf("Right of %.300v by %x", want, root)
	}
	if p.Tag != want.Tag && Right(root, p) {
		t.Fatalf("Right of %.300v by %x, whose right tag is %x", p, root, want.Tag)
	}
}

// TestP19_1Seal holds the tag, and that all else stays, of packets by chance, and of each that is a bit otherwise.
func TestP19_1Seal(t *testing.T) {
	c := rand.New(rand.NewSource(2))
	for _, r := range roots() {
		for range 10 {
			isSealed(t, r, one(c))
		}
		for _, p := range changes(one(c)) {
			isSealed(t, r, p)
		}
	}
	for _, w := range pairs() {
		isSealed(t, root, api.Packet{From: w[0], To: w[1], Epoch: 1, Seqn: 1})
	}
}

// TestP19_1SealNot holds the same of packets that may not be.
func TestP19_1SealNot(t *testing.T) {
	isSealed(t, root, api.Packet{})
	isSealed(t, nil, api.Packet{})
	for _, n := range edges() {
		for _, m := range few() {
			isSealed(t, root, api.Packet{From: n, To: m, Epoch: 1, Boot: 0, Seqn: 1})
			isSealed(t, root, api.Packet{From: m, To: n, Epoch: 1, Boot: 0, Seqn: 1, Body: []byte("b")})
			isSealed(t, root, api.Packet{From: 0, To: 1, Epoch: n, Boot: m, Seqn: 1})
			isSealed(t, root, api.Packet{From: 0, To: 1, Epoch: 1, Boot: n, Seqn: m})
			isSealed(t, root, api.Packet{From: 0, To: 1, Epoch: m, Boot: 0, Seqn: n})
		}
	}
}

// TestP19_1Long holds the tags of heads at the edge of a form, and behind it: that of no bytes.
func TestP19_1Long(t *testing.T) {
	c := rand.New(rand.NewSource(3))
	p := one(c)
	for _, n := range []int{255, 256, 257, space - 1, space, space + 1, room - 1, room, room + 1, most, most + 1, 1 << 17, 1 << 20} {
		p.Body = junk(c, n)
		isSealed(t, root, p)
	}
	p.Body = junk(c, room+1)
	q := p
	if q.Boot, q.Seqn, q.Body = p.Boot+1, p.Seqn+1, junk(c, room+9); Seal(root, p).Tag != Seal(root, q).Tag {
		t.Error("two that have no head")
	}
	if q.Epoch++; Seal(root, p).Tag == Seal(root, q).Tag {
		t.Error("two that have no head, nor one key")
	}
	if p.Body = p.Body[:room]; Seal(root, p).Tag == Seal(root, q).Tag {
		t.Error("one that has a head")
	}
}

// TestP19_1Right holds that the tag of a packet is none of one that is otherwise, or by another root.
func TestP19_1Right(t *testing.T) {
	c := rand.New(rand.NewSource(4))
	for range 12 {
		p := one(c)
		for _, r := range roots() {
			for _, s := range roots() {
				if is := tagOf(r, p) == tagOf(s, p); Right(r, Seal(s, p)) != is {
					t.Fatalf("%v sealed by %x, right by %x: %v", p, s, r, !is)
				}
			}
		}
		p = Seal(root, p)
		for _, q := range changes(p) {
			if Right(root, q) {
				t.Fatalf("the tag of %v of %v", p, q)
			}
		}
	}
}

// TestP19_1OtherKeys holds that a tag by another key than the link's is not right: the root itself, another label, other numbers.
func TestP19_1OtherKeys(t *testing.T) {
	p := api.Packet{From: 2, To: 3, Epoch: 5, Boot: 7, Seqn: 11, Body: []byte("b")}
	for i, key := range [][]byte{root, nil, keyed(root, nil), keyed(root, []byte("link\x00")), keyed(root, numbered([]byte("link"), 2, 3, 5)), keyed(root, numbered([]byte("tenant\x00"), 2, 3, 5)), keyed(root, numbered([]byte("link\x00"), 3, 2, 5)), keyed(root, numbered([]byte("link\x00"), 2, 3)), keyed(root, numbered([]byte("link\x00"), 2, 3, 6)), keyed(root, numbered([]byte("link\x00"), 2, 3, 5, 7)), keyed(root, numbered([]byte("link\x00"), 5, 2, 3))} {
		if p.Tag = api.Tag(keyed(key, headOf(p))); Right(root, p) {
			t.Errorf("%d", i)
		}
	}
	if p.Tag = api.Tag(keyed(keyed(root, numbered([]byte("link\x00"), 2, 3, 5)), headOf(p))); !Right(root, p) {
		t.Error("the link's key")
	}
}

// isPrinted holds what Print tells, and what Parse does of that.
func isPrinted(t *testing.T, p api.Packet) {
	t.Helper()
	want, is := laid(p), api.OK
	switch {
	case !mayBe(p):
		want, is = nil, wrong
	case len(want) > most:
		want, is = nil, long
	}
	b, e := Print(p)
	if e != is || !bytes.Equal(b, want) || e != 0 && b != nil {
		t.Fatalf("Print of %.300v: error %d, %.300x; not %d, %.300x", p, e, b, is, want)
	}
	q, e := Parse(laid(p))
	if is == api.OK && (e != 0 || !same(p, q)) {
		t.Fatalf("Parse of the bytes of %.300v: error %d, %.300v", p, e, q)
	}
	if is != api.OK && (e != notLink || !same(q, api.Packet{}) || q.Body != nil) {
		t.Fatalf("Parse of the bytes of %.300v, that has none: error %d, %.300v", p, e, q)
	}
}

// TestP19_2Print holds the bytes of packets by chance, and of each that is a bit otherwise, whatever its tag is.
func TestP19_2Print(t *testing.T) {
	c := rand.New(rand.NewSource(5))
	for range 300 {
		isPrinted(t, one(c))
		isPrinted(t, sealed(root, one(c)))
	}
	for range 10 {
		for _, p := range changes(one(c)) {
			isPrinted(t, p)
		}
	}
	for _, w := range pairs() {
		isPrinted(t, api.Packet{From: w[0], To: w[1], Epoch: 1, Seqn: 1})
	}
}

// TestP19_2Edges holds which numbers have bytes.
func TestP19_2Edges(t *testing.T) {
	isPrinted(t, api.Packet{})
	for _, n := range edges() {
		for _, m := range edges() {
			isPrinted(t, api.Packet{From: n, To: m, Epoch: 1, Boot: 0, Seqn: 1})
			isPrinted(t, api.Packet{From: 0, To: 1, Epoch: n, Boot: m, Seqn: 1})
			isPrinted(t, api.Packet{From: 0, To: 1, Epoch: 1, Boot: n, Seqn: m})
			isPrinted(t, api.Packet{From: 0, To: 1, Epoch: m, Boot: 0, Seqn: n})
		}
	}
}

// TestP19_2Long holds how long a packet's bytes may be, and that whether it may be is asked ahead of that.
func TestP19_2Long(t *testing.T) {
	c := rand.New(rand.NewSource(6))
	for _, n := range []int{255, 256, 257, 1023, 1024, 1025, space - 1, space, space + 1, space + 32, room, room + 1, most, most + 1, 1 << 20} {
		p := one(c)
		p.Body = junk(c, n)
		isPrinted(t, p)
		p.Seqn = 0
		isPrinted(t, p)
	}
	p := one(c)
	if p.Body = make([]byte, 65460); !mayBe(p) {
		t.Fatal(p)
	}
	if b, e := Print(p); e != 0 || len(b) != 65536 {
		t.Errorf("error %d, %d bytes", e, len(b))
	}
	p.Body = make([]byte, 65461)
	if b, e := Print(p); e != 3 || b != nil {
		t.Errorf("error %d, %d bytes", e, len(b))
	}
	p.Boot = -1
	if b, e := Print(p); e != 2 || b != nil {
		t.Errorf("error %d, %d bytes", e, len(b))
	}
}

// isParsed holds what Parse tells of any bytes, and that Print tells these again.
func isParsed(t *testing.T, b []byte) {
	t.Helper()
	want, ok := read(b)
	p, e := Parse(b)
	if !ok {
		if e != notLink || !same(p, api.Packet{}) || p.Body != nil {
			t.Fatalf("Parse of %.300x: error %d, %.300v", b, e, p)
		}
		return
	}
	if e != 0 || !same(p, want) {
		t.Fatalf("Parse of %.300x: error %d, %.300v; not %.300v", b, e, p, want)
	}
	if c, e := Print(p); e != 0 || !bytes.Equal(b, c) {
		t.Fatalf("Print of %.300v: error %d, %.300x; not %.300x", p, e, c, b)
	}
}

// TestP19_2Parse holds what bytes tell that are a packet's but for one, for a piece, for more.
func TestP19_2Parse(t *testing.T) {
	c := rand.New(rand.NewSource(7))
	isParsed(t, nil)
	for range 20 {
		p := one(c)
		b := laid(p)
		isParsed(t, b)
		for i := range b {
			isParsed(t, b[:i])
			isParsed(t, b[i:])
			isParsed(t, append(bytes.Clone(b[:i]), b[i+1:]...))
			isParsed(t, append(append(bytes.Clone(b[:i]), byte(c.Intn(256))), b[i:]...))
			for _, x := range []byte{1, 128, byte(c.Intn(256))} {
				d := bytes.Clone(b)
				d[i] ^= x
				isParsed(t, d)
			}
		}
		for n := 1; n < 20; n++ {
			isParsed(t, append(bytes.Clone(b), make([]byte, n)...))
			isParsed(t, append(bytes.Clone(b), junk(c, n)...))
		}
		isParsed(t, append(bytes.Clone(b), b...))
	}
}

// TestP19_2BodysLength holds that a body is as long as the bytes say, not less nor more.
func TestP19_2BodysLength(t *testing.T) {
	for _, n := range []int{0, 1, 2, 31, 32, 33, 255, 256, space} {
		b := laid(api.Packet{From: 1, To: 0, Epoch: 1, Seqn: 1, Body: make([]byte, n)})
		for _, m := range []int{0, 1, 2, 31, 32, 33, n - 1, n + 1, n + 31, n + 32, n + 33, 255, 256, 257, space, space + 1, most, most + 1, 1 << 24, 1 << 31, 1<<32 - 1} {
			d := bytes.Clone(b)
			d[40], d[41], d[42], d[43] = byte(m>>24), byte(m>>16), byte(m>>8), byte(m)
			isParsed(t, d)
		}
	}
}

// TestP19_2ParseLong holds that bytes that are too many are no packet's, whatever they say.
func TestP19_2ParseLong(t *testing.T) {
	p := api.Packet{From: 1, To: 0, Epoch: 1, Seqn: 1}
	for _, n := range []int{space - 1, space, space + 1, room, most, 1 << 20} {
		p.Body = make([]byte, n)
		isParsed(t, laid(p))
	}
}

// TestP19_2Chance holds what bytes by chance tell, of which many are a packet's.
func TestP19_2Chance(t *testing.T) {
	c := rand.New(rand.NewSource(8))
	found := 0
	for range 20000 {
		var b []byte
		for range 5 {
			b = numbered(b, []int{-1, 0, 1, 1, 2, 4, 8, 9, 5, 10}[c.Intn(10)])
		}
		n := c.Intn(6)
		b = append(b, 0, 0, 0, byte(n+c.Intn(20)/19))
		b = append(b, junk(c, n+32)...)
		isParsed(t, b)
		if _, ok := read(b); ok {
			found++
		}
		isParsed(t, junk(c, c.Intn(200)))
	}
	if found < 1000 {
		t.Errorf("%d are a packet's", found)
	}
}

// TestP19_3Send holds the bytes that are sent, one behind the other, to each receiver, in each epoch.
func TestP19_3Send(t *testing.T) {
	for _, who := range everybody {
		for _, boot := range []int{0, 1, 7, math.MaxInt} {
			x, m := New(root, who, boot), newModel(root, who, boot)
			for i := range 3 {
				for _, to := range everybody {
					for _, epoch := range []int{1, 2, 1 << 40, math.MaxInt} {
						sends(t, x, m, to, epoch, []byte{byte(i), byte(to)})
						sends(t, x, m, to, epoch, nil)
					}
				}
			}
		}
	}
}

// TestP19_3Numbers holds that numbers begin at 1, rise by 1, and are each receiver's and epoch's own.
func TestP19_3Numbers(t *testing.T) {
	x := New(root, 2, 5)
	is := func(to, epoch, want int) {
		t.Helper()
		b, e := x.Send(to, epoch, []byte("b"))
		if p, ok := read(b); e != 0 || !ok || p.Seqn != want || p.From != 2 || p.To != to || p.Epoch != epoch || p.Boot != 5 || string(p.Body) != "b" || p.Tag != tagOf(root, p) {
			t.Errorf("error %d, %v; not %d", e, p, want)
		}
	}
	for i := range 300 {
		is(1, 1, i+1)
	}
	is(0, 1, 1)
	is(1, 2, 1)
	is(8, 1, 1)
	is(9, 1, 1)
	is(1, 1, 301)
	is(1, 2, 2)
	is(0, 1, 2)
	is(0, 2, 1)
	is(1, 1, 302)
}

// TestP19_3Refused holds whom nothing is sent to, and in which epoch, and that what is refused takes no number.
func TestP19_3Refused(t *testing.T) {
	for _, who := range edges() {
		for _, boot := range []int{0, 1, -1, math.MinInt, math.MaxInt} {
			x, m := New(root, who, boot), newModel(root, who, boot)
			for _, to := range edges() {
				for _, epoch := range []int{1, 0, -1, 2, math.MinInt, math.MaxInt} {
					sends(t, x, m, to, epoch, []byte("b"))
				}
			}
			for _, to := range everybody {
				sends(t, x, m, to, 1, []byte("b"))
			}
		}
	}
}

// TestP19_3Long holds how long a body may be, and that whether the packet may be is asked ahead of that.
func TestP19_3Long(t *testing.T) {
	x, m := New(root, 0, 0), newModel(root, 0, 0)
	for _, n := range []int{0, 1, space - 1, space, space + 1, room, room + 1, most, 1 << 20, 3} {
		for _, to := range []int{1, 9, 0, 5} {
			sends(t, x, m, to, 1, make([]byte, n))
			sends(t, x, m, to, 0, make([]byte, n))
		}
	}
	if n := m.sent[[2]int{1, 1}]; n != 5 {
		t.Errorf("%d packets", n)
	}
	if b, e := x.Send(1, 1, make([]byte, 65461)); e != 3 || b != nil {
		t.Errorf("error %d, %d bytes", e, len(b))
	}
	if b, e := x.Send(1, 1, make([]byte, 65460)); e != 0 || len(b) != 65536 || b[39] != 6 {
		t.Errorf("error %d, %d bytes", e, len(b))
	}
	if b, e := x.Send(0, 1, make([]byte, 65461)); e != 2 || b != nil {
		t.Errorf("error %d, %d bytes", e, len(b))
	}
}

// TestP19_3Roots holds that packets are sealed by the root that New was handed.
func TestP19_3Roots(t *testing.T) {
	for _, r := range roots() {
		x, y := New(r, 3, 0), New(r, 4, 0)
		m, n := newModel(r, 3, 0), newModel(r, 4, 0)
		for range 3 {
			gets(t, y, n, sends(t, x, m, 4, 6, []byte("body")))
			gets(t, x, m, sends(t, y, n, 3, 6, nil))
		}
	}
}

// TestP19_4Get holds what is got, from each, in each epoch, boot, number.
func TestP19_4Get(t *testing.T) {
	for _, who := range everybody {
		x, m := New(root, who, 3), newModel(root, who, 3)
		for _, from := range everybody {
			for _, epoch := range []int{1, 2, math.MaxInt} {
				for _, boot := range []int{0, 5, 4, 5, math.MaxInt} {
					for _, n := range []int{1, 70, 6, 7, 7, 1, 71} {
						gets(t, x, m, laid(sealed(root, api.Packet{From: from, To: who, Epoch: epoch, Boot: boot, Seqn: n, Body: []byte("b")})))
					}
				}
			}
		}
	}
}

// TestP19_4Errors holds the order of errors: whose bytes they are ahead of the tag, that ahead of the window.
func TestP19_4Errors(t *testing.T) {
	x, m := New(root, 1, 0), newModel(root, 1, 0)
	p := sealed(root, api.Packet{From: 0, To: 1, Epoch: 1, Boot: 2, Seqn: 9, Body: []byte("b")})
	try := func(p api.Packet, want api.Errno) {
		t.Helper()
		if e := gets(t, x, m, laid(p)); e != want {
			t.Errorf("error %d, not %d", e, want)
		}
	}
	try(p, api.OK)
	try(p, already)
	q := p
	q.Tag[0]++
	try(q, notTag)
	q.To = 2
	try(q, notLink)
	try(sealed(root, q), notLink)
	q.To, q.Boot = 1, 1
	try(q, notTag)
	try(sealed(root, q), already)
	q.Seqn = 0
	try(q, notLink)
	try(sealed(root, q), notLink)
	q.Seqn, q.From = 9, 1
	try(sealed(root, q), notLink)
	q.From = 7
	try(sealed(root, q), notLink)
	q.From, q.Boot = 0, -1
	try(sealed(root, q), notLink)
	q.Boot, q.Epoch = 2, 0
	try(sealed(root, q), notLink)
	q.Epoch = 2
	try(sealed(root, q), api.OK)
	q.Boot, q.Seqn = 3, 1
	try(sealed(root, q), api.OK)
}

// TestP19_4Others holds that one gets what is for it alone; of ends of somebody that there isn't nothing is.
func TestP19_4Others(t *testing.T) {
	for _, who := range edges() {
		x, m := New(root, who, 0), newModel(root, who, 0)
		for _, to := range edges() {
			for _, from := range []int{0, 1, 8, 9} {
				want := notLink
				if p := sealed(root, api.Packet{From: from, To: to, Epoch: 1, Seqn: 1}); mayBe(p) && to == who {
					want = api.OK
				}
				if e := gets(t, x, m, laid(sealed(root, api.Packet{From: from, To: to, Epoch: 1, Seqn: 1}))); e != want {
					t.Fatalf("%d gets what is for %d: error %d", who, to, e)
				}
			}
		}
	}
}

// TestP19_4Windows holds that each sender and epoch has a window of its own, and that what isn't got moves none.
func TestP19_4Windows(t *testing.T) {
	x, m := New(root, 4, 0), newModel(root, 4, 0)
	try := func(from, epoch, boot, seqn int, want api.Errno) {
		t.Helper()
		p := sealed(root, api.Packet{From: from, To: 4, Epoch: epoch, Boot: boot + 9, Seqn: seqn + 500})
		p.Boot, p.Seqn = boot, seqn
		bad := sealed(root, p)
		bad.Boot, bad.Seqn = boot+9, seqn+500
		if e := gets(t, x, m, laid(bad)); e != notTag {
			t.Errorf("error %d", e)
		}
		if e := gets(t, x, m, laid(sealed(root, p))); e != want {
			t.Errorf("from %d in epoch %d boot %d number %d: error %d, not %d", from, epoch, boot, seqn, e, want)
		}
	}
	try(0, 1, 0, 100, 0)
	try(1, 1, 0, 1, 0)
	try(0, 2, 0, 1, 0)
	try(8, 1, 0, 1, 0)
	try(9, 1, 0, 1, 0)
	try(0, 1, 0, 36, already)
	try(0, 1, 0, 37, 0)
	try(0, 1, 0, 37, already)
	try(0, 1, 0, 100, already)
	try(0, 1, 0, 101, 0)
	try(0, 2, 1, 1, 0)
	try(0, 2, 0, 2, already)
	try(0, 1, 0, 99, 0)
	try(1, 1, 0, 2, 0)
	try(1, 2, 0, 2, 0)
	try(2, 1, 7, 2, 0)
	try(2, 1, 6, 3, already)
	try(1, 1, 6, 3, 0)
}

// TestP19_4Boot holds that Boot tells that of New, also one that no packet has, whatever is sent and got.
func TestP19_4Boot(t *testing.T) {
	for _, who := range edges() {
		for _, boot := range edges() {
			x, m := New(root, who, boot), newModel(root, who, boot)
			for range 2 {
				if x.Boot() != boot {
					t.Fatalf("%d, not %d", x.Boot(), boot)
				}
				sends(t, x, m, 2, 1, []byte("b"))
				gets(t, x, m, laid(sealed(root, api.Packet{From: 3, To: who, Epoch: 1, Boot: 70, Seqn: 1})))
			}
		}
	}
}

// everyones tells all ends of one boot, and models.
func everyones(root []byte, boot int) (map[int]*Ends, map[int]*model) {
	l, m := map[int]*Ends{}, map[int]*model{}
	for _, who := range everybody {
		l[who], m[who] = New(root, who, boot), newModel(root, who, boot)
	}
	return l, m
}

// TestP19_5Once holds that what is sent is got once, by whom it is for, and by nobody else.
func TestP19_5Once(t *testing.T) {
	l, m := everyones(root, 2)
	for i := range 4 {
		for _, w := range pairs() {
			body := fmt.Sprint(i, w)
			b := sends(t, l[w[0]], m[w[0]], w[1], 1+i%2, []byte(body))
			for range 2 {
				for _, who := range everybody {
					if p, e := l[who].Get(b); who != w[1] && (e != notLink || !same(p, api.Packet{})) {
						t.Fatalf("%d gets %x: error %d, %v", who, b, e, p)
					} else if who == w[1] && e == 0 && (string(p.Body) != body || p.From != w[0] || p.To != w[1] || p.Epoch != 1+i%2 || p.Boot != 2 || p.Seqn != 1+i/2) {
						t.Fatalf("%d gets %x: %v", who, b, p)
					}
				}
				if e := gets(t, New(root, w[1], 9), newModel(root, w[1], 9), b); e != 0 { // whose windows are gone
					t.Fatalf("error %d", e)
				}
				if _, e := l[w[1]].Get(b); e != already {
					t.Fatalf("error %d", e)
				}
			}
		}
	}
}

// TestP19_5AnyOrder holds that packets that are less than 64 apart are got in any order, each once, and that one that is 64 behind isn't.
func TestP19_5AnyOrder(t *testing.T) {
	for seed := range 30 {
		c := rand.New(rand.NewSource(int64(seed)))
		l, m := everyones(root, c.Intn(3))
		w := pairs()[c.Intn(len(pairs()))]
		epoch := 1 + c.Intn(3)
		var all [][]byte
		for range 192 {
			all = append(all, sends(t, l[w[0]], m[w[0]], w[1], epoch, junk(c, c.Intn(9))))
		}
		for i := range 3 {
			part := all[64*i : 64*i+64]
			for _, j := range append(c.Perm(64), c.Perm(64)...) {
				gets(t, l[w[1]], m[w[1]], part[j])
			}
		}
		if n := len(m[w[1]].came); n != 192 {
			t.Fatalf("%d are got", n)
		}
		for i, want := range []api.Errno{already, already, 0, 0} { // 63 and 64 are those at the edge
			x, at := New(root, w[1], 0), []int{0, 63, 64, 126}[i]
			if _, e := x.Get(all[127]); e != 0 {
				t.Fatalf("error %d", e)
			}
			if _, e := x.Get(all[at]); e != want {
				t.Fatalf("%d behind 127: error %d", at, e)
			}
		}
	}
}

// TestP19_5Boots holds that what is sent from a greater boot is got, and from then on nothing from a lesser one, in that epoch.
func TestP19_5Boots(t *testing.T) {
	y, n := New(root, 1, 0), newModel(root, 1, 0)
	for boot := range 4 {
		x, m := New(root, 0, boot), newModel(root, 0, boot)
		for range 3 {
			if e := gets(t, y, n, sends(t, x, m, 1, 1, nil)); e != 0 {
				t.Fatalf("error %d", e)
			}
			z := New(root, 0, boot-1)
			b, _ := z.Send(1, 1, nil)
			if e := gets(t, y, n, b); boot > 0 && e != already || boot == 0 && e != notLink {
				t.Fatalf("error %d", e)
			}
		}
	}
	b := sends(t, New(root, 0, 0), newModel(root, 0, 0), 1, 2, nil)
	if e := gets(t, y, n, b); e != 0 {
		t.Fatalf("error %d", e)
	}
}

// TestP19_5Net holds all ends against models, in long lines by chance: packets come late, twice, to others, a bit otherwise, and ends are made anew.
func TestP19_5Net(t *testing.T) {
	for seed := range 20 {
		if err := netted(rand.New(rand.NewSource(int64(seed))), 1500); err != nil {
			t.Fatalf("seed %d: %v", seed, err)
		}
	}
}

// netted tells how ends were unlike models, in so many steps by chance.
func netted(c *rand.Rand, steps int) error {
	l, m := map[int]*Ends{}, map[int]*model{}
	boots := map[int]int{}
	start := func(who int) {
		l[who], m[who] = New(root, who, boots[who]), newModel(root, who, boots[who])
		boots[who]++
	}
	for _, who := range everybody {
		start(who)
	}
	some := func() int { return everybody[c.Intn(len(everybody))] }
	var way [][]byte
	for range steps {
		switch c.Intn(10) {
		case 0, 1, 2, 3:
			who, to, epoch, body := c.Intn(3), c.Intn(3), 1+c.Intn(2), junk(c, c.Intn(20))
			if c.Intn(5) == 0 {
				who, to, epoch = some(), few()[c.Intn(9)], few()[c.Intn(9)]
			}
			if err := sendsLike(l[who], m[who], to, epoch, body); err != nil {
				return err
			}
			if b, e := m[who].send(to, epoch, body); e == 0 {
				way = append(way, b)
			}
		case 4:
			if c.Intn(20) == 0 {
				start(some())
			}
		default:
			if err := comes(c, l, m, way); err != nil {
				return err
			}
		}
	}
	return nil
}

// comes tells how one that gets one of these bytes by chance is unlike its model.
func comes(c *rand.Rand, l map[int]*Ends, m map[int]*model, way [][]byte) error {
	if len(way) == 0 {
		return nil
	}
	b := bytes.Clone(way[len(way)-1-c.Intn(min(len(way), 100))])
	who := int(b[15])
	switch c.Intn(12) {
	case 0:
		who = everybody[c.Intn(len(everybody))]
	case 1:
		b[c.Intn(len(b))] ^= 1 << c.Intn(8)
	case 2:
		b = b[:c.Intn(len(b))]
	case 3:
		p, _ := read(b)
		p.Boot, p.Seqn = p.Boot+1, p.Seqn+64
		b = laid(p)
	}
	_, err := getsLike(l[who], m[who], b)
	return err
}

// TestP19_6AnyByte holds that bytes of which one is otherwise are not got, whatever it is, and that they keep nothing from being got.
func TestP19_6AnyByte(t *testing.T) {
	for _, w := range [][2]int{{0, 1}, {8, 3}, {4, 9}} {
		b := sends(t, New(root, w[0], 1), newModel(root, w[0], 1), w[1], 2, []byte("body"))
		x, m := New(root, w[1], 0), newModel(root, w[1], 0)
		for i := range b {
			for n := 1; n < 256; n++ {
				d := bytes.Clone(b)
				d[i] ^= byte(n)
				if e := gets(t, x, m, d); e != notLink && e != notTag {
					t.Fatalf("byte %d: error %d", i, e)
				}
			}
		}
		if e := gets(t, x, m, b); e != 0 {
			t.Fatalf("error %d", e)
		}
	}
}

// TestP19_6Pieces holds that pieces of packets, and packets put together of others' pieces, are not got.
func TestP19_6Pieces(t *testing.T) {
	x, m := New(root, 0, 1), newModel(root, 0, 1)
	y, n := New(root, 1, 0), newModel(root, 1, 0)
	a, b := sends(t, x, m, 1, 2, []byte("body")), sends(t, x, m, 1, 2, []byte("ydob"))
	for i := range a {
		for _, d := range [][]byte{a[:i], a[i+1:], append(bytes.Clone(a[:i]), a[i+1:]...), append(bytes.Clone(a), make([]byte, i+1)...)} {
			if e := gets(t, y, n, d); e != notLink {
				t.Fatalf("%d: error %d", i, e)
			}
		}
		if d := append(bytes.Clone(a[:i]), b[i:]...); !bytes.Equal(d, a) && !bytes.Equal(d, b) {
			if e := gets(t, y, n, d); e != notTag {
				t.Fatalf("%d: error %d", i, e)
			}
		}
	}
	if e := gets(t, y, n, b); e != 0 {
		t.Fatalf("error %d", e)
	}
	if e := gets(t, y, n, a); e != 0 {
		t.Fatalf("error %d", e)
	}
}

// TestP19_6Roots holds that nothing is got that another root sealed.
func TestP19_6Roots(t *testing.T) {
	for i, r := range roots() {
		for j, s := range roots() {
			x, m := New(r, 2, 0), newModel(r, 2, 0)
			y, n := New(s, 3, 0), newModel(s, 3, 0)
			e := gets(t, y, n, sends(t, x, m, 3, 1, []byte("b")))
			if alike := bytes.Equal(keyed(r, nil), keyed(s, nil)); alike && e != 0 || !alike && e != notTag { // a key and that key with bytes 0 behind it are one
				t.Errorf("%d, %d: error %d", i, j, e)
			}
		}
	}
}
