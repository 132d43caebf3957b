package request

import (
	"bytes"
	"math/rand"
	"slices"
	"strings"
	"testing"

	"seneschal/api"
)

// isNone, isNoReply tell whether there is nothing of one.
func isNone(r api.Request) bool  { return sameRequest(r, api.Request{}) && len(r.Token) == 0 }
func isNoReply(r api.Reply) bool { return sameReply(r, api.Reply{}) && len(r.Keys) == 0 }

// prints holds what May and Print tell of a request; of one that may be, what Parse reads of it.
func prints(t *testing.T, r api.Request, may bool) {
	t.Helper()
	if May(r) != may {
		t.Fatalf("May of %s: %v", text(r), !may)
	}
	b, e := Print(r)
	if !may {
		if len(b) != 0 || e != 2 {
			t.Fatalf("Print of %s: %d bytes, error %d", text(r), len(b), e)
		}
		parses(t, formOf(r))
		return
	}
	if e != 0 || !bytes.Equal(b, formOf(r)) {
		t.Fatalf("Print of %s: %v, error %d", text(r), b, e)
	}
	if back, e := Parse(b); e != 0 || !sameRequest(back, r) {
		t.Fatalf("Parse of the form of %s: %s, error %d", text(r), text(back), e)
	}
}

// parses holds what Parse tells of bytes against the model, and that what it reads has that form.
func parses(t *testing.T, b []byte) {
	t.Helper()
	want, wrong := modelParse(b)
	r, e := Parse(b)
	if e != wrong || !sameRequest(r, want) {
		t.Fatalf("Parse of %v: %s, error %d, not error %d", b, text(r), e, wrong)
	}
	if e != 0 {
		return
	}
	if again, e := Print(r); e != 0 || !bytes.Equal(again, b) {
		t.Fatalf("%v, read and printed: %v, error %d", b, again, e)
	}
}

// refuses holds that bytes are no request's form.
func refuses(t *testing.T, name string, b []byte, want api.Errno) {
	t.Helper()
	if r, e := Parse(b); e != want || !isNone(r) {
		t.Fatalf("%s: Parse of %v: %s, error %d, not error %d", name, b, text(r), e, want)
	}
}

// replies holds what PrintReply tells of a reply; of one that may be, what ParseReply reads of it.
func replies(t *testing.T, r api.Reply, may bool) {
	t.Helper()
	b, e := PrintReply(r)
	if !may {
		if len(b) != 0 || e != 2 {
			t.Fatalf("PrintReply of %s: %d bytes, error %d", replyText(r), len(b), e)
		}
		refusesReply(t, "may not be", replyForm(r))
		return
	}
	if e != 0 || !bytes.Equal(b, replyForm(r)) {
		t.Fatalf("PrintReply of %s: %v, error %d", replyText(r), b, e)
	}
	if back, e := ParseReply(b); e != 0 || !sameReply(back, r) {
		t.Fatalf("ParseReply of the form of %s: %s, error %d", replyText(r), replyText(back), e)
	}
}

// parsesReply holds what ParseReply tells of bytes against the model, and that what it reads has that form.
func parsesReply(t *testing.T, b []byte) {
	t.Helper()
	want, wrong := modelParseReply(b)
	r, e := ParseReply(b)
	if e != wrong || !sameReply(r, want) {
		t.Fatalf("ParseReply of %v: %s, error %d, not error %d", b, replyText(r), e, wrong)
	}
	if e != 0 {
		return
	}
	if again, e := PrintReply(r); e != 0 || !bytes.Equal(again, b) {
		t.Fatalf("%v, read and printed: %v, error %d", b, again, e)
	}
}

// refusesReply holds that bytes are no reply's form.
func refusesReply(t *testing.T, name string, b []byte) {
	t.Helper()
	if r, e := ParseReply(b); e != 150 || !isNoReply(r) {
		t.Fatalf("%s: ParseReply of %d bytes: %s, error %d", name, len(b), replyText(r), e)
	}
}

// TestExamples holds the chapter's examples, byte by byte.
func TestExamples(t *testing.T) {
	form := append([]byte{1, 0, 0, 0, 0, 0, 0, 0, 1, 107, 0, 0, 0, 0, 0, 0, 0, 0}, make([]byte, 32+1+16)...)
	if b, e := Print(api.Request{Op: api.OpGet, Key: "k"}); e != api.OK || !bytes.Equal(b, form) || len(b) != 67 {
		t.Errorf("OpGet of k: %v, error %d", b, e)
	}
	if r, e := Parse(form); e != api.OK || !sameRequest(r, api.Request{Op: api.OpGet, Key: "k"}) {
		t.Errorf("the form: %s, error %d", text(r), e)
	}
	for _, r := range []api.Request{{}, {Key: "k"}, {Op: api.OpGet}, {Op: api.OpGet, Key: "k", N: 1}} {
		prints(t, r, false)
	}
	refuses(t, "67 noughts", make([]byte, 67), api.ErrOp)
	refuses(t, "1025 bytes", make([]byte, 1025), api.ErrLong)
}

// TestP15_1Ops holds of each number that may stand as Op whether there is such an Op, with the fields of each Op that there is.
func TestP15_1Ops(t *testing.T) {
	for op := range 256 {
		for of := range uint8(ops + 1) {
			for _, r := range []api.Request{least(of), most(of)} {
				r.Op = uint8(op)
				prints(t, r, mayBe(r))
			}
		}
		if op < 1 || op > 10 {
			prints(t, api.Request{Op: uint8(op)}, false)
			prints(t, api.Request{Op: uint8(op), Key: "k"}, false)
		}
	}
}

// TestP15_1Table holds the chapter's table, row by row, as it stands there.
func TestP15_1Table(t *testing.T) {
	g := api.Grant{Rights: 1}
	for _, r := range []api.Request{
		{Op: api.OpGet, Key: "k"}, {Op: api.OpDel, Key: strings.Repeat("k", 24)}, {Op: api.OpPut, Key: "k"}, {Op: api.OpPut, Key: "k", Value: strings.Repeat("v", 64)},
		{Op: api.OpSwap, Key: "k"}, {Op: api.OpSwap, Key: "k", Value: strings.Repeat("v", 64), Old: strings.Repeat("o", 64)},
		{Op: api.OpList, N: 1}, {Op: api.OpList, Key: strings.Repeat("k", 24), N: 16},
		{Op: api.OpCreate, Tenant: 1}, {Op: api.OpCreate, Tenant: 8, Keys: 65536, Space: 65536}, {Op: api.OpResize, Tenant: 1}, {Op: api.OpResize, Tenant: 8, Keys: 65536, Space: 65536},
		{Op: api.OpGrant, Grant: g}, {Op: api.OpGrant, Tenant: 8, Grant: api.Grant{Rights: 15, Expiry: 1 << 40}},
		{Op: api.OpRevoke}, {Op: api.OpRevoke, Tenant: 8, N: 65536}, {Op: api.OpAudit}, {Op: api.OpAudit, N: 65536},
	} {
		prints(t, r, true)
		r.Token = make([]byte, 256)
		prints(t, r, true)
		r.Token = make([]byte, 257)
		prints(t, r, false)
	}
	for _, r := range []api.Request{
		{Op: api.OpGet}, {Op: api.OpDel}, {Op: api.OpPut, Value: "v"}, {Op: api.OpSwap, Old: "o"}, {Op: api.OpDel, Key: strings.Repeat("k", 25)}, {Op: api.OpPut, Key: "k", Value: strings.Repeat("v", 65)},
		{Op: api.OpPut, Key: "k", Old: "o"}, {Op: api.OpSwap, Key: "k", Old: strings.Repeat("o", 65)}, {Op: api.OpList, Key: "k"}, {Op: api.OpList, N: 17}, {Op: api.OpList, N: -1}, {Op: api.OpList, Key: strings.Repeat("k", 25), N: 1},
		{Op: api.OpCreate, Keys: 1}, {Op: api.OpResize}, {Op: api.OpCreate, Tenant: 9}, {Op: api.OpCreate, Tenant: 1, Keys: 65537}, {Op: api.OpResize, Tenant: 1, Space: -1},
		{Op: api.OpGrant}, {Op: api.OpGrant, Tenant: -1, Grant: g}, {Op: api.OpGrant, Grant: api.Grant{Rights: 1, Serial: 1}}, {Op: api.OpGrant, Grant: api.Grant{Rights: 1, Expiry: 1<<40 + 1}}, {Op: api.OpGrant, Grant: api.Grant{Expiry: 1}},
		{Op: api.OpRevoke, Tenant: 9}, {Op: api.OpRevoke, N: 65537}, {Op: api.OpAudit, Tenant: 1}, {Op: api.OpAudit, N: -1}, {Op: api.OpAudit, Grant: g}, {Op: api.OpRevoke, Grant: api.Grant{Expiry: 1}},
	} {
		prints(t, r, false)
	}
}

// TestP15_1Pairs holds of each Op all pairs of fields, each at all places at which something may end, ahead of a least and a greatest request.
func TestP15_1Pairs(t *testing.T) {
	for op := range uint8(ops + 2) {
		for _, of := range []api.Request{least(op), most(op)} {
			for i := range fields {
				for j := range i {
					for _, x := range ofField(i) {
						l := sizes(of)
						l[i] = x
						for _, y := range ofField(j) {
							l[j] = y
							r := ofSizes(op, l)
							if May(r) != mayBe(r) {
								t.Fatalf("May of %s: %v", text(r), !mayBe(r))
							}
						}
					}
				}
				for _, x := range ofField(i) {
					l := sizes(of)
					l[i] = x
					r := ofSizes(op, l)
					prints(t, r, mayBe(r))
				}
			}
		}
	}
}

// TestP15_1AnyBytes holds that texts and tokens have whatever bytes, and that it is bytes that are counted.
func TestP15_1AnyBytes(t *testing.T) {
	for x := range 256 {
		one := string([]byte{byte(x)})
		prints(t, api.Request{Op: api.OpSwap, Token: []byte(one), Key: one, Value: one + "v", Old: "o" + one}, true)
		prints(t, api.Request{Op: api.OpGet, Token: bytes.Repeat([]byte{byte(x)}, 256), Key: strings.Repeat(one, 24)}, true)
		prints(t, api.Request{Op: api.OpGet, Key: strings.Repeat(one, 25)}, false)
	}
	prints(t, api.Request{Op: api.OpGet, Key: strings.Repeat("ä", 12)}, true)
	prints(t, api.Request{Op: api.OpGet, Key: strings.Repeat("ä", 12) + "a"}, false)
	prints(t, api.Request{Op: api.OpPut, Key: "\x00", Value: strings.Repeat("ä", 32) + "a"}, false)
}

// TestP15_2Long holds that more than 1024 bytes are ErrLong, whatever they are, and no others.
func TestP15_2Long(t *testing.T) {
	form := formOf(most(api.OpSwap))
	for n := range 1100 {
		want := api.ErrOp
		if n > 1024 {
			want = api.ErrLong
		}
		refuses(t, "noughts", make([]byte, n), want)
		if n != len(form) {
			refuses(t, "a form, and noughts", append(slices.Clone(form), make([]byte, 1100)...)[:n], want)
		}
	}
	for _, n := range []int{2000, 65535, 65536, 65537, 1 << 20} {
		refuses(t, "many", make([]byte, n), api.ErrLong)
		refuses(t, "many behind a form", append(slices.Clone(form), make([]byte, n)...), api.ErrLong)
	}
	for _, n := range []int{256, 257, 800, 807, 808, 1000} { // a form of one that may not be, as it has a long token
		r := api.Request{Op: api.OpGet, Token: some(n), Key: "k"}
		parses(t, formOf(r))
	}
	r := api.Request{Op: api.OpGet, Token: some(1024 - 67), Key: "k"}
	refuses(t, "a form of 1024 bytes", formOf(r), api.ErrOp)
	r.Key = "kk"
	refuses(t, "a form of 1025 bytes", formOf(r), api.ErrLong)
}

// TestP15_2OneByte holds, of each byte of some forms, what all that may stand in its place make of it.
func TestP15_2OneByte(t *testing.T) {
	for op := range uint8(ops) {
		r := least(op + 1)
		r.Token = []byte{9}
		b := formOf(r)
		for at := range b {
			kept := b[at]
			for x := range 256 {
				b[at] = byte(x)
				parses(t, b)
			}
			b[at] = kept
		}
	}
}

// TestP15_2Lengths holds what comes of lengths that aren't those of what stands behind them.
func TestP15_2Lengths(t *testing.T) {
	r := api.Request{Op: api.OpSwap, Token: []byte{0, 0, 0, 1}, Key: "\x00\x00\x00\x01", Value: "\x00\x00\x00\x02", Old: "\x00\x00\x00\x00"}
	form := formOf(r)
	for at := 1; at <= 32; at++ {
		for _, n := range []uint32{0, 1, 2, 3, 4, 5, 8, 12, 16, 24, 60, 1 << 16, 1<<16 + 1, 1 << 24, 1<<31 - 1, 1 << 31, 1<<32 - 1} {
			b := slices.Clone(form)
			copy(b[at:], []byte{byte(n >> 24), byte(n >> 16), byte(n >> 8), byte(n)})
			parses(t, b)
		}
	}
}

// TestP15_3Keys holds how many keys a reply may have, and of how many bytes, and the same of its value.
func TestP15_3Keys(t *testing.T) {
	for n := range 40 {
		replies(t, whole(n), n <= 16)
		r := whole(n)
		r.Keys = make([]string, n)
		replies(t, r, n <= 16)
	}
	for _, n := range []int{0, 1, 24, 64, 255, 256, 257, 500, 511, 512, 513, 514, 1024, 5000, 65536} {
		long := string(some(n))
		replies(t, api.Reply{Value: long}, n <= 512)
		replies(t, api.Reply{Keys: []string{long}}, n <= 512)
		for at := range 16 {
			r := whole(16)
			r.Keys[at] = long
			replies(t, r, n <= 512)
			r.Value = long
			replies(t, r, n <= 512)
			r = api.Reply{Keys: make([]string, at+1)}
			r.Keys[at] = long
			replies(t, r, n <= 512)
		}
	}
	r := api.Reply{Value: string(some(512)), Keys: slices.Repeat([]string{string(some(512))}, 16)}
	replies(t, r, true)
	r.Keys = append(r.Keys, "")
	replies(t, r, false)
}

// TestP15_3Fields holds each field of a reply alone, at all places at which something may end: none of them may not be.
func TestP15_3Fields(t *testing.T) {
	var r api.Reply
	replies(t, r, true)
	for _, n := range ends() {
		for _, x := range []*int{(*int)(&r.Err), &r.N, &r.Link.N, &r.Link.Stamp, &r.Link.Tenant, &r.Link.A, &r.Link.B, &r.Link.C} {
			*x = n
			replies(t, r, true)
			*x = 0
		}
	}
	for op := range 256 {
		replies(t, api.Reply{Link: api.Link{Op: uint8(op)}}, true)
	}
	for at := range 32 {
		r.Link.Ahead[at], r.Link.Self[at] = byte(at), 255
		replies(t, r, true)
	}
}

// TestP15_3Form holds a reply's form, byte by byte.
func TestP15_3Form(t *testing.T) {
	r := api.Reply{Err: 110, Value: "v", Keys: []string{"a", "", "bc"}, N: -1, Link: api.Link{N: 1, Stamp: 2, Op: 3, Tenant: 4, A: 5, B: 6, C: 256, Ahead: api.Tag{7}, Self: api.Tag{31: 8}}}
	want := slices.Concat(
		[]byte{0, 0, 0, 0, 0, 0, 0, 110}, []byte{0, 0, 0, 1, 'v'},
		[]byte{0, 0, 0, 0, 0, 0, 0, 3}, []byte{0, 0, 0, 1, 'a', 0, 0, 0, 0, 0, 0, 0, 2, 'b', 'c'},
		bytes.Repeat([]byte{255}, 8),
		[]byte{0, 0, 0, 0, 0, 0, 0, 1, 0, 0, 0, 0, 0, 0, 0, 2, 3},
		[]byte{0, 0, 0, 0, 0, 0, 0, 4, 0, 0, 0, 0, 0, 0, 0, 5, 0, 0, 0, 0, 0, 0, 0, 6, 0, 0, 0, 0, 0, 0, 1, 0},
		[]byte{7}, make([]byte, 31+31), []byte{8},
	)
	if b, e := PrintReply(r); e != api.OK || !bytes.Equal(b, want) {
		t.Errorf("%v, error %d", b, e)
	}
	if x, e := ParseReply(want); e != api.OK || !sameReply(x, r) {
		t.Errorf("%s, error %d", replyText(x), e)
	}
	if b, e := PrintReply(api.Reply{}); e != api.OK || !bytes.Equal(b, make([]byte, 141)) {
		t.Errorf("of nothing: %v, error %d", b, e)
	}
}

// TestP15_3OneByte holds, of each byte of some replies' forms, what all that may stand in its place make of it.
func TestP15_3OneByte(t *testing.T) {
	for _, keys := range []int{0, 1, 3, 16} {
		b := replyForm(whole(keys))
		for at := range b {
			kept := b[at]
			for x := range 256 {
				if keys > 3 && x > 20 && x < 250 {
					continue
				}
				b[at] = byte(x)
				parsesReply(t, b)
			}
			b[at] = kept
		}
	}
}

// TestP15_3Counts holds what comes of a count that isn't that of the keys behind it: also where the bytes behind it could be those keys.
func TestP15_3Counts(t *testing.T) {
	for _, tail := range [][]byte{make([]byte, 129), make([]byte, 129+4), make([]byte, 129+4*16), make([]byte, 129+4*17), make([]byte, 9000), replyForm(whole(9))} {
		for _, n := range ends() {
			b := slices.Concat(make([]byte, 12), number(n), tail)
			parsesReply(t, b)
		}
	}
}

// TestP15_3Long holds that a reply's bytes are ErrOp, however many there are: there is no ErrLong of them.
func TestP15_3Long(t *testing.T) {
	for _, n := range []int{0, 1, 140, 142, 1024, 1025, 8909, 8910, 65535, 65536, 65537, 1 << 20} {
		refusesReply(t, "noughts", make([]byte, n))
		refusesReply(t, "behind a form", append(replyForm(whole(2)), make([]byte, n+1)...))
	}
	long := api.Reply{Value: string(some(65536 - 141))}
	refusesReply(t, "a form of 65536 bytes", replyForm(long))
	long.Value += "v"
	refusesReply(t, "a form of 65537 bytes", replyForm(long))
}

// TestP15_4Most holds that the longest form of a request has at most 1024 bytes, and so is read.
func TestP15_4Most(t *testing.T) {
	longestForm := 0
	for op := range uint8(ops) {
		r := most(op + 1)
		prints(t, r, true)
		b, _ := Print(r)
		longestForm = max(longestForm, len(b))
	}
	if longestForm != 474 || longestForm > 1024 {
		t.Errorf("the longest has %d bytes", longestForm)
	}
}

// TestP15_4ByChance holds any requests and replies that may be, there and back, and any others.
func TestP15_4ByChance(t *testing.T) {
	c := rand.New(rand.NewSource(15))
	for range 30000 {
		prints(t, chance(c), true)
		r := wild(c)
		prints(t, r, mayBe(r))
	}
	for range 5000 {
		replies(t, replyChance(c), true)
	}
}

// TestP15_5Cuts holds that no beginning of a form is one, and no form with bytes behind it.
func TestP15_5Cuts(t *testing.T) {
	for op := range uint8(ops) {
		for _, r := range []api.Request{least(op + 1), most(op + 1)} {
			b := formOf(r)
			for n := range b {
				refuses(t, "a beginning", b[:n], api.ErrOp)
			}
			for _, more := range [][]byte{{0}, {1}, {255}, number(0), b, make([]byte, 500)} {
				refuses(t, "with bytes behind it", slices.Concat(b, more), api.ErrOp)
			}
			for n := range 550 {
				refuses(t, "with noughts behind it", append(slices.Clone(b), make([]byte, n+1)...), api.ErrOp)
			}
		}
	}
	for keys := range 17 {
		b := replyForm(whole(keys))
		for n := range b {
			refusesReply(t, "a beginning", b[:n])
		}
		for _, more := range [][]byte{{0}, {1}, {255}, number(0), b, make([]byte, 500), make([]byte, 70000)} {
			refusesReply(t, "with bytes behind it", slices.Concat(b, more))
		}
	}
}

// TestByChance holds what is read of any bytes, most of them a form in which some are others, are missing, or too many.
func TestByChance(t *testing.T) {
	c := rand.New(rand.NewSource(51))
	for n := range 40000 {
		b, parse := formOf(chance(c)), parses
		if n%4 == 0 {
			b, parse = replyForm(replyChance(c)), parsesReply
		}
		for range c.Intn(3) {
			at := c.Intn(len(b))
			switch c.Intn(4) {
			case 0:
				b[at] = byte(c.Intn(3) - 1)
			case 1:
				b[at] ^= 1 << c.Intn(8)
			case 2:
				b = slices.Delete(b, at, min(len(b), at+1+c.Intn(4)))
			case 3:
				b = slices.Insert(b, at, some(c.Intn(9))...)
			}
			if len(b) == 0 {
				break
			}
		}
		parse(t, b)
	}
}
