package snap

import (
	"bytes"
	"crypto/sha256"
	"encoding/binary"
	"encoding/hex"
	"math"
	"math/rand"
	"slices"
	"strings"
	"testing"

	"seneschal/api"
	"seneschal/replies"
	"seneschal/request"
	"seneschal/state"
	"seneschal/token"
)

// firstBytes tells the first state's bytes, as the chapter's example has them.
func firstBytes() []byte { return spelt(0, 0, 1, 0, 1, 0, 0, 0, 0, 0, 0) }

// TestExamples holds the chapter's examples.
func TestExamples(t *testing.T) {
	b := Print(state.New())
	if len(b) != 88 || !bytes.Equal(b, firstBytes()) {
		t.Errorf("%x", b)
	}
	s, e := Restore(firstBytes())
	if e != 0 || text(s) != text(state.New()) {
		t.Errorf("error %d\n%s", e, text(s))
	}
	for _, b := range [][]byte{append(b, 0), b[:87], nil} {
		if s, e := Restore(b); e != 170 || text(s) != text(state.State{}) {
			t.Errorf("%x: error %d\n%s", b, e, text(s))
		}
	}
}

// TestP17_1Print holds the bytes of a state with something everywhere, put down one by one.
func TestP17_1Print(t *testing.T) {
	want := spelt(77,
		2, 1, 4, 100, 3, 2, 50,
		3,
		0, 11, 0, 0, 0, 1, 12,
		1, 13, 4, 100, 2, "a", "xyz", "bb", "", 2, 14, 1<<33,
		3, 0, 2, 50, 1, "\x00\xff", "\x80", 0,
		2,
		15, -16, 17, 18, 19, -20, 21, tagOf(1), tagOf(2),
		math.MinInt, math.MaxInt, 255, -22, math.MinInt, 23, math.MaxInt, tagOf(3), tagOf(4),
		2,
		0, 24, 25, "told", 3, "k", "", "lll", -26, 27, 28, 29, 30, 31, 32, 33, tagOf(5), tagOf(6),
		2, 1<<40, math.MinInt, "", 0, math.MaxInt, 0, 0, 0, math.MinInt, 0, 0, 0, api.Tag{}, tagOf(7),
	)
	if len(want) != 921 || !bytes.Equal(laid(base()), want) {
		t.Fatalf("the model tells %x", laid(base()))
	}
	if b := Print(base()); !bytes.Equal(b, want) {
		t.Errorf("%x, not %x", b, want)
	}
}

// TestP17_1Other holds the bytes of a state with each thing otherwise: none, if it may not be.
func TestP17_1Other(t *testing.T) {
	count := map[bool]int{}
	for _, x := range others() {
		s := base()
		x.change(&s)
		may := state.May(s)
		count[may]++
		b := Print(s)
		if may && !bytes.Equal(b, laid(s)) || !may && len(b) > 0 {
			t.Fatalf("%s: %x of\n%s", x.name, b, text(s))
		}
	}
	if count[true] < 1000 || count[false] < 300 {
		t.Error(count)
	}
	for _, s := range []state.State{{}, {Pos: 1}, {Links: base().Links}, {Lasts: base().Lasts}} {
		if b := Print(s); len(b) > 0 {
			t.Errorf("%x of\n%s", b, text(s))
		}
	}
}

// TestP17_1ByChance holds the same of states by chance.
func TestP17_1ByChance(t *testing.T) {
	c := rand.New(rand.NewSource(171))
	for range 2000 {
		s := someState(c)
		if !state.May(s) {
			t.Fatalf("may not be:\n%s", text(s))
		}
		if b := Print(s); !bytes.Equal(b, laid(s)) {
			t.Fatalf("%x of\n%s", b, text(s))
		}
	}
}

// TestP17_2Restore holds that a state's bytes are restored, with each thing of it otherwise: ErrSnap, if such a state may not be.
func TestP17_2Restore(t *testing.T) {
	for _, x := range others() {
		s := base()
		x.change(&s)
		if is := holdsRestore(t, laid(s)); is != state.May(s) {
			t.Fatalf("%s: %v of\n%s", x.name, is, text(s))
		}
	}
	for _, s := range []state.State{base(), full(), state.New()} {
		if u, e := Restore(laid(s)); e != 0 || text(u) != text(s) {
			t.Errorf("error %d\n%s, not\n%s", e, text(u), text(s))
		}
	}
}

// TestP17_2Cut holds that each beginning of a state's bytes is ErrSnap, and these with whatever behind them.
func TestP17_2Cut(t *testing.T) {
	for _, b := range [][]byte{laid(base()), firstBytes()} {
		for cut := range b {
			if holdsRestore(t, b[:cut]) || holdsRestore(t, b[cut+1:]) {
				t.Fatalf("%d of %x", cut, b)
			}
		}
		for _, more := range [][]byte{{0}, {255}, numbers(0), numbers(1), numbers(0, 0, 0), b, b[:1], make([]byte, 1000)} {
			if holdsRestore(t, slices.Concat(b, more)) || holdsRestore(t, slices.Concat(more, b)) {
				t.Fatalf("%x beside %x", more, b)
			}
		}
	}
}

// TestP17_2Number holds what Restore tells of each eight bytes of a state's as another number, wherever they begin: counts, lengths, Ops among them.
func TestP17_2Number(t *testing.T) {
	first := laid(base())
	count := map[bool]int{}
	for at := range len(first) - 7 {
		for _, n := range ends() {
			b := slices.Clone(first)
			binary.BigEndian.PutUint64(b[at:], uint64(n))
			count[holdsRestore(t, b)]++
		}
		for d := 1; d < 18; d++ {
			b := slices.Clone(first)
			n := binary.BigEndian.Uint64(b[at:])
			binary.BigEndian.PutUint64(b[at:], n+uint64(d))
			count[holdsRestore(t, b)]++
			binary.BigEndian.PutUint64(b[at:], n-uint64(d))
			count[holdsRestore(t, b)]++
		}
	}
	if count[true] < 5000 || count[false] < 5000 {
		t.Error(count)
	}
}

// TestP17_2Byte holds what Restore tells of a state's bytes with each byte otherwise, or left out, or twice there.
func TestP17_2Byte(t *testing.T) {
	for _, first := range [][]byte{laid(base()), firstBytes()} {
		for at := range first {
			for x := range 18 { // some more than it is, some less, each bit otherwise
				for _, y := range []byte{first[at] + byte(x+1), first[at] + byte(x+201), first[at] ^ 1<<(x%8)} {
					b := slices.Clone(first)
					b[at] = y
					holdsRestore(t, b)
				}
			}
			holdsRestore(t, slices.Delete(slices.Clone(first), at, at+1))
			holdsRestore(t, slices.Insert(slices.Clone(first), at, first[at]))
		}
	}
}

// TestP17_2Op holds that an Op is from 0 to 255, of a link and of a reply's.
func TestP17_2Op(t *testing.T) {
	for _, n := range append(ends(), 254, 300, 511, 65535, 1<<32+6, 1<<62+6, math.MinInt+6, -250) {
		may := n >= 0 && n <= 255
		link := []any{1, 2, n, 3, 4, 5, 6, tagOf(1), tagOf(2)}
		ofState := spelt(slices.Concat([]any{0, 0, 1, 0, 1, 0, 0, 0, 0, 1}, link, []any{0})...)
		ofReply := spelt(slices.Concat([]any{0, 0, 1, 0, 1, 0, 0, 0, 0, 0, 1, 0, 1, 0, "", 0, 0}, link)...)
		if holdsRestore(t, ofState) != may || holdsRestore(t, ofReply) != may {
			t.Errorf("Op %d", n)
		}
		if !may {
			continue
		}
		if s, _ := Restore(ofState); s.Links[0].Op != uint8(n) {
			t.Errorf("Op %d: %d", n, s.Links[0].Op)
		}
		if s, _ := Restore(ofReply); s.Lasts[0].Reply.Link.Op != uint8(n) {
			t.Errorf("Op %d: %d", n, s.Lasts[0].Reply.Link.Op)
		}
	}
}

// TestP17_2Err holds that an Err is any number, from -2^63 on.
func TestP17_2Err(t *testing.T) {
	for _, n := range append(ends(), 110, -110, 1<<62, -1<<62) {
		b := spelt(0, 0, 1, 0, 1, 0, 0, 0, 0, 0, 1, 0, 1, n, "", 0, 0, 0, 0, 0, 0, 0, 0, 0, api.Tag{}, api.Tag{})
		s, e := Restore(b)
		if e != 0 || int(s.Lasts[0].Reply.Err) != n || !holdsRestore(t, b) {
			t.Errorf("Err %d: error %d\n%s", n, e, text(s))
		}
	}
}

// TestP17_2Count holds that how many there are of a list, and a text's bytes, must be as many as there are.
func TestP17_2Count(t *testing.T) {
	last := []any{0, 0, 0, 0, 0, 0, 0, 0, api.Tag{}, api.Tag{}} // a reply's N and Link
	for _, n := range append(ends(), 6, 10) {
		for _, c := range []struct {
			name  string
			bytes []byte
			is    int
		}{
			{"shares", spelt(0, n, 1, 0, 0, 2, 0, 1, 0, 0, 0, 0, 1, 0, 0, 0, 0, 0, 0, 0), 1},
			{"no shares", spelt(0, n, 1, 0, 1, 0, 0, 0, 0, 0, 0), 0},
			{"tenants", spelt(0, 1, 1, 0, 0, n, 0, 1, 0, 0, 0, 0, 1, 0, 0, 0, 0, 0, 0, 0), 2},
			{"pairs", spelt(0, 1, 1, 9, 99, 2, 0, 1, 0, 0, 0, 0, 1, 0, 9, 99, n, "a", "1", "b", "", 0, 0, 0), 2},
			{"a long key", spelt(0, 1, 1, 9, 99, 2, 0, 1, 0, 0, 0, 0, 1, 0, 9, 99, n, strings.Repeat("k", 24), "1", 0, 0, 0), 1},
			{"revoked", spelt(0, 0, 1, 0, 1, 0, 0, 0, n, 3, 4, 5, 0, 0), 3},
			{"links", spelt(0, 0, 1, 0, 1, 0, 0, 0, 0, n, 1, 0, 0, 0, 0, 0, 0, api.Tag{}, api.Tag{}, 0), 1},
			{"lasts", spelt(append([]any{0, 0, 1, 0, 1, 0, 0, 0, 0, 0, n, 1, 1, 0, "", 0}, last...)...), 1},
			{"keys", spelt(append([]any{0, 0, 1, 0, 1, 0, 0, 0, 0, 0, 1, 1, 1, 0, "", n, "a", "", "c"}, last...)...), 3},
			{"a value's bytes", slices.Concat(numbers(0, 0, 1, 0, 1, 0, 0, 0, 0, 0, 1, 1, 1, 0, n), []byte("abcde"), spelt(append([]any{0}, last...)...)), 5},
			{"a key's bytes", slices.Concat(numbers(0, 0, 1, 0, 1, 0, 0, 0, 0, 0, 1, 1, 1, 0, 0, 1, n), []byte("abc"), spelt(last...)), 3},
		} {
			if is := holdsRestore(t, c.bytes); is != (n == c.is) {
				t.Errorf("%s, %d: %v", c.name, n, is)
			}
		}
	}
}

// TestP17_2ByChance holds what Restore tells of states' bytes by chance, of which some are otherwise.
func TestP17_2ByChance(t *testing.T) {
	c := rand.New(rand.NewSource(172))
	count := map[bool]int{}
	for range 20000 {
		b := laid(someState(c))
		for range c.Intn(3) {
			at := c.Intn(len(b))
			switch c.Intn(5) {
			case 0:
				b[at] = byte(c.Intn(256))
			case 1:
				b = slices.Delete(b, at, min(len(b), at+1+c.Intn(9)))
			case 2:
				b = slices.Insert(b, at, numbers(someNumber(c))...)
			case 3:
				b = slices.Insert(b, at, b[c.Intn(len(b)):]...)
			case 4:
				copy(b[at:], numbers(someNumber(c)))
			}
			if len(b) == 0 {
				break
			}
		}
		count[holdsRestore(t, b)]++
	}
	if count[true] < 5000 || count[false] < 5000 {
		t.Error(count)
	}
}

// TestP17_3Digest holds digests that Python's hashlib told of bytes that it put together, and others against Go's own SHA-256.
func TestP17_3Digest(t *testing.T) {
	for _, c := range []struct {
		s    state.State
		want string
	}{
		{state.New(), "97805ab8649e0df0768bd741c6c6faac23c19367d95779f455efe80029925302"},
		{base(), "c4888590f70d01f4195cf380d972be1b62546873a9f437ae50377f809762fb5e"},
	} {
		if d := Digest(c.s); hex.EncodeToString(d[:]) != c.want {
			t.Errorf("%x of\n%s", d, text(c.s))
		}
	}
	c := rand.New(rand.NewSource(173))
	for range 1000 {
		s := someState(c)
		if d := Digest(s); d != sha256.Sum256(laid(s)) {
			t.Fatalf("%x of\n%s", d, text(s))
		}
	}
	for _, x := range others() {
		s := base()
		x.change(&s)
		want := api.Tag{}
		if state.May(s) {
			want = sha256.Sum256(laid(s))
		}
		if d := Digest(s); d != want {
			t.Fatalf("%s: %x of\n%s", x.name, d, text(s))
		}
	}
}

// TestP17_4ThereAndBack holds that a state is restored from its bytes as it was, in all, and printed as these again.
func TestP17_4ThereAndBack(t *testing.T) {
	c := rand.New(rand.NewSource(174))
	for n := range 3000 {
		s := someState(c)
		switch n {
		case 0:
			s = state.New()
		case 1:
			s = base()
		case 2:
			s = full()
		}
		b := Print(s)
		u, e := Restore(b)
		if e != 0 || !state.Same(s, u) || text(s) != text(u) || !state.May(u) {
			t.Fatalf("error %d:\n%s, not\n%s", e, text(u), text(s))
		}
		if again := Print(u); !bytes.Equal(again, b) || Digest(u) != Digest(s) {
			t.Fatalf("%x, not %x", again, b)
		}
	}
}

// TestP17_5OneForm holds that two states have the same bytes, the same digest, just if they are the same.
func TestP17_5OneForm(t *testing.T) {
	var all []state.State
	for at, x := range others() {
		s := base()
		x.change(&s)
		if state.May(s) && (at%7 == 0 || len(s.Links) != 2 || x.name[:2] != "an") {
			all = append(all, s)
		}
	}
	all = append(all, base(), deep(base()), state.New(), deep(state.New()), full())
	var forms, digests []string
	for _, s := range all {
		d := Digest(s)
		forms, digests = append(forms, string(Print(s))), append(digests, string(d[:]))
	}
	count := map[bool]int{}
	for i, s := range all {
		for k, u := range all {
			same := state.Same(s, u)
			count[same]++
			if same != (forms[i] == forms[k]) || same != (digests[i] == digests[k]) {
				t.Fatalf("the same: %v:\n%s%x\n%s%x", same, text(s), forms[i], text(u), forms[k])
			}
		}
	}
	if count[true] < len(all)+4 || len(all) < 800 {
		t.Error(count, len(all))
	}
}

// root is a root.
var root = bytes.Repeat([]byte{1}, 32)

// someBody tells a request's bytes by chance, of tokens that were told ahead, the admin's the first one.
func someBody(c *rand.Rand, told [][]byte) []byte {
	q := api.Request{Op: uint8(1 + c.Intn(10)), Token: told[0]}
	key := oneOf(c, "a", "b", "\x00", "long, but not too long")
	switch q.Op {
	case api.OpGet, api.OpDel:
		q.Key = key
	case api.OpPut:
		q.Key, q.Value = key, someText(c, 64)
	case api.OpSwap:
		q.Key, q.Value, q.Old = key, oneOf(c, "", "1"), oneOf(c, "", "1")
	case api.OpList:
		q.Key, q.N = oneOf(c, "", "b"), 1+c.Intn(16)
	case api.OpCreate, api.OpResize:
		q.Tenant, q.Keys, q.Space = 1+c.Intn(8), c.Intn(12), c.Intn(700)
	case api.OpGrant:
		q.Tenant, q.Grant = c.Intn(9), api.Grant{Rights: uint8(1 + c.Intn(7)), Expiry: oneOf(c, 60, clock, clock)}
	case api.OpRevoke:
		q.Tenant, q.N = c.Intn(9), 3+c.Intn(60)
	case api.OpAudit:
		q.N = c.Intn(20)
	}
	if q.Op < api.OpCreate || c.Intn(9) == 0 {
		q.Token = oneOf(c, told...)
	}
	b, e := request.Print(q)
	if e != api.OK {
		panic(e)
	}
	return b[:len(b)-c.Intn(20)/19]
}

// sameBehind holds that an entry, and its request alone, do the same to a state and to one that was restored, and tells the state behind it, and what is told.
func sameBehind(t *testing.T, s, u state.State, e api.Entry) (state.State, state.State, api.Reply) {
	t.Helper()
	a, r := state.Do(root, s, e.Stamp, e.Body)
	b, q := state.Do(root, u, e.Stamp, e.Body)
	if text(a) != text(b) || replyText(r) != replyText(q) {
		t.Fatalf("Do: %s, and\n%snot %s, and\n%s", replyText(q), text(b), replyText(r), text(a))
	}
	s, r = state.Apply(root, s, e)
	u, q = state.Apply(root, u, e)
	if text(s) != text(u) || replyText(r) != replyText(q) {
		t.Fatalf("Apply: %s, and\n%snot %s, and\n%s", replyText(q), text(u), replyText(r), text(s))
	}
	return s, u, r
}

// TestP17_6GoesOn holds that a restored state does what the first one does: with long lines of entries, restored again at times.
func TestP17_6GoesOn(t *testing.T) {
	c := rand.New(rand.NewSource(176))
	done := map[api.Errno]int{}
	for range 20 {
		s, u := state.New(), state.New()
		told := [][]byte{token.Print(state.Admin(root))}
		for pos := range 150 {
			if c.Intn(3) == 0 {
				var e api.Errno
				if u, e = Restore(Print(s)); e != 0 {
					t.Fatalf("error %d of\n%s", e, text(s))
				}
			}
			e := api.Entry{Pos: pos + 1, Stamp: pos, Client: c.Intn(4), ID: max(1, pos+1-c.Intn(3)*c.Intn(3)), Body: someBody(c, told)}
			var r api.Reply
			s, u, r = sameBehind(t, s, u, e)
			done[r.Err]++
			if x, e := token.Parse([]byte(r.Value)); e == api.OK {
				told = append(told, token.Print(x))
			}
			if Digest(s) != Digest(u) {
				t.Fatalf("digests of\n%s", text(s))
			}
		}
	}
	if done[api.OK] < 600 || done[api.ErrStale] < 100 || len(done) < 9 {
		t.Error(done)
	}
}

// TestP17_6Whatever holds the same of states by chance, which entries don't lead to.
func TestP17_6Whatever(t *testing.T) {
	c := rand.New(rand.NewSource(177))
	told := [][]byte{token.Print(state.Admin(root))}
	for number := range 9 {
		x, _ := token.Mint(state.Key(root, number), number, api.Grant{Rights: 7, Expiry: clock, Serial: 61})
		told = append(told, token.Print(x))
	}
	for range 2000 {
		s := someState(c)
		s.Pos %= clock
		u, e := Restore(Print(s))
		if e != 0 {
			t.Fatalf("error %d of\n%s", e, text(s))
		}
		sameBehind(t, s, u, api.Entry{Pos: s.Pos + 1, Stamp: c.Intn(60), Client: c.Intn(4), ID: oneOf(c, 1, 2, 3, 4, clock), Body: someBody(c, told)})
		for _, x := range s.Lasts { // what a client was told last it is told again
			_, r := state.Apply(root, u, api.Entry{Pos: u.Pos + 1, Client: x.Client, ID: x.ID})
			if !replies.SameReply(r, x.Reply) {
				t.Fatalf("%s, not %s", replyText(r), replyText(x.Reply))
			}
		}
	}
}
