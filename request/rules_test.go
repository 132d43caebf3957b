package request

import (
	"bytes"
	"math/rand"
	"slices"
	"strings"
	"sync"
	"testing"

	"seneschal/api"
)

// spoil writes over bytes and all the room behind them.
func spoil(b []byte) {
	b = b[:cap(b)]
	for i := range b {
		b[i] = ^b[i]
	}
}

// spoilKeys writes over keys and all the room behind them.
func spoilKeys(l []string) {
	l = l[:cap(l)]
	for i := range l {
		l[i] += "spoiled"
	}
}

// must tells what a call answers, that may not answer an error here.
func must[T any](x T, e api.Errno) T {
	if e != api.OK {
		panic(e)
	}
	return x
}

// TestP0_1NoPanic holds that each call ends and does not panic, whatever it is handed, and what it tells of nothing at all.
func TestP0_1NoPanic(t *testing.T) {
	c := rand.New(rand.NewSource(1))
	for n := range 20000 {
		r := wild(c)
		r.Op = uint8(c.Intn(256))
		May(r)
		Print(r)
		x := replyChance(c)
		x.Keys = append(x.Keys, x.Keys...)
		PrintReply(x)
		b := make([]byte, c.Intn(300))
		if n%100 == 0 {
			b = make([]byte, c.Intn(70000))
		}
		for i := range b {
			b[i] = byte(c.Intn(2) * c.Intn(2) * c.Intn(256)) // mostly 0, so that lengths are at times of what is there
		}
		Parse(b)
		ParseReply(b)
	}
	for n := range 400 {
		for _, x := range []byte{0, 1, 2, 127, 128, 255} {
			parses(t, bytes.Repeat([]byte{x}, n))
			parsesReply(t, bytes.Repeat([]byte{x}, n))
		}
	}
	prints(t, api.Request{}, false)
	replies(t, api.Reply{}, true)
	refuses(t, "nil", nil, 150)
	refusesReply(t, "nil", nil)
	huge := strings.Repeat("k", 1<<20)
	prints(t, api.Request{Op: api.OpSwap, Key: huge, Value: huge, Old: huge}, false)
	prints(t, api.Request{Op: api.OpGet, Key: "k", Token: []byte(huge)}, false)
	replies(t, api.Reply{Value: huge, Keys: make([]string, 1<<16)}, false)
}

// TestP0_2ZeroBesideError holds that beside an error there is no part of a request, a reply, or a form, wherever it is found.
func TestP0_2ZeroBesideError(t *testing.T) {
	for op := range uint8(ops) {
		for at := range fields {
			for _, n := range ofField(at) {
				l := sizes(most(op + 1))
				l[at] = n
				r := ofSizes(op+1, l)
				if mayBe(r) {
					continue
				}
				if b, e := Print(r); b != nil || e != api.ErrArg {
					t.Fatalf("Print of %s: %v, error %d", text(r), b, e)
				}
				if x, e := Parse(formOf(r)); !isNone(x) || x.Token != nil || e != api.ErrOp {
					t.Fatalf("Parse of the form of %s: %s, error %d", text(r), text(x), e)
				}
			}
		}
		b := formOf(most(op + 1))
		refuses(t, "the last byte is missing", b[:len(b)-1], api.ErrOp)
		refuses(t, "a byte too many", append(b, 0), api.ErrOp)
		refuses(t, "far too many", append(b, make([]byte, 1024)...), api.ErrLong)
	}
	b := replyForm(whole(16))
	for _, b := range [][]byte{b[:len(b)-1], append(slices.Clone(b), 0), replyForm(whole(17)), replyForm(api.Reply{Keys: []string{"a", string(some(513))}})} {
		if r, e := ParseReply(b); !isNoReply(r) || r.Keys != nil || e != api.ErrOp {
			t.Fatalf("%d bytes: %s, error %d", len(b), replyText(r), e)
		}
	}
	for _, r := range []api.Reply{whole(17), {Value: string(some(513))}, {Keys: []string{"a", string(some(513))}}} {
		if b, e := PrintReply(r); b != nil || e != api.ErrArg {
			t.Fatalf("%s: %d bytes, error %d", replyText(r), len(b), e)
		}
	}
}

// TestP0_2LongFirst holds that of more than 1024 bytes ErrLong is told, also of those that are no form whatever they are.
func TestP0_2LongFirst(t *testing.T) {
	for _, b := range [][]byte{bytes.Repeat([]byte{255}, 1025), some(1025), some(70000), formOf(api.Request{Op: 11, Token: some(1024)})} {
		refuses(t, "long", b, api.ErrLong)
		refuses(t, "cut", b[:1024], api.ErrOp)
	}
}

// TestP0_3NothingStays holds that nothing is kept from call to call: behind calls that are refused the others answer as ahead of them.
func TestP0_3NothingStays(t *testing.T) {
	for op := range uint8(ops) {
		r, x := most(op+1), whole(int(op))
		for range 3 {
			Print(api.Request{Op: op + 1, Token: some(257)})
			Print(api.Request{Op: op + 1, N: -1})
			Parse(make([]byte, 1025))
			Parse(formOf(r)[:100])
			Parse(append(formOf(r), 1))
			PrintReply(whole(17))
			ParseReply(replyForm(x)[:100])
			ParseReply(make([]byte, 70000))
			prints(t, r, true)
			prints(t, api.Request{Op: op + 1, Tenant: 9}, false)
			replies(t, x, true)
		}
	}
}

// TestP0_4NotChanged holds that a token, keys, bytes that are handed in aren't changed, nor what stands in the room behind them, which doesn't count either.
func TestP0_4NotChanged(t *testing.T) {
	for op := range uint8(ops) {
		for _, n := range []int{0, 1, 9, 100, 255, 256, 257} {
			r, token := most(op+1), some(n+300)
			r.Token = token[:n]
			May(r)
			b, e := Print(r)
			if n <= 256 && (e != api.OK || !bytes.Equal(b, formOf(r))) || !bytes.Equal(token, some(n+300)) {
				t.Fatalf("%s: %v, error %d", text(r), b, e)
			}
			all := append(formOf(r), some(900)...)
			kept := slices.Clone(all)
			for cut := range len(all) {
				x, e := Parse(all[:cut])
				if cut == len(all)-900 && n <= 256 && (e != api.OK || !sameRequest(x, r)) || !bytes.Equal(all, kept) {
					t.Fatalf("%s, %d bytes of it: %s, error %d", text(r), cut, text(x), e)
				}
			}
		}
	}
	for n := range 18 {
		keys := whole(30).Keys
		r := whole(n)
		r.Keys = keys[:n]
		b, e := PrintReply(r)
		if n <= 16 && (e != api.OK || !bytes.Equal(b, replyForm(r))) || !slices.Equal(keys, whole(30).Keys) {
			t.Fatalf("%d keys: %v, error %d", n, b, e)
		}
		all := append(replyForm(r), some(300)...)
		kept := slices.Clone(all)
		for cut := range len(all) {
			x, e := ParseReply(all[:cut])
			if cut == len(all)-300 && n <= 16 && (e != api.OK || !sameReply(x, r)) || !bytes.Equal(all, kept) {
				t.Fatalf("%d keys, %d bytes: %s, error %d", n, cut, replyText(x), e)
			}
		}
	}
}

// TestP0_4NotShared holds that forms, tokens and keys are new memory, with the room behind them: not what was handed in, and not another answer's.
func TestP0_4NotShared(t *testing.T) {
	for op := range uint8(ops) {
		r := most(op + 1)
		r.Token = append(make([]byte, 0, 400), r.Token...)
		a, b := must(Print(r)), must(Print(r))
		spoil(a)
		if !bytes.Equal(b, formOf(most(op+1))) || !sameRequest(r, most(op+1)) {
			t.Fatalf("%s: a form is shared", text(r))
		}
		form := append(make([]byte, 0, 2000), b...)
		x, y := must(Parse(form)), must(Parse(form))
		spoil(x.Token)
		if !sameRequest(y, r) || !sameRequest(must(Parse(form)), r) || !bytes.Equal(form, b) {
			t.Fatalf("%s: a token is shared", text(r))
		}
	}
	for keys := range 17 {
		r := whole(keys)
		r.Keys = append(make([]string, 0, 30), r.Keys...)
		a, b := must(PrintReply(r)), must(PrintReply(r))
		spoil(a)
		if !bytes.Equal(b, replyForm(whole(keys))) || !sameReply(r, whole(keys)) {
			t.Fatalf("%d keys: a form is shared", keys)
		}
		form := append(make([]byte, 0, 20000), b...)
		x, y := must(ParseReply(form)), must(ParseReply(form))
		spoilKeys(x.Keys)
		if !sameReply(y, r) || !sameReply(must(ParseReply(form)), r) || !bytes.Equal(form, b) {
			t.Fatalf("%d keys: keys are shared", keys)
		}
	}
}

// TestP0_4NotKept holds that the caller may change what it handed in behind a call: what was told stays, and the next call looks at it anew.
func TestP0_4NotKept(t *testing.T) {
	for op := range uint8(ops) {
		r := most(op + 1)
		b := must(Print(r))
		spoil(r.Token)
		if !bytes.Equal(b, formOf(most(op+1))) || !bytes.Equal(must(Print(r)), formOf(r)) {
			t.Fatalf("%s: the form changed with the token", text(r))
		}
		x := must(Parse(b))
		spoil(b)
		if !sameRequest(x, most(op+1)) {
			t.Fatalf("%s: changed with its form", text(x))
		}
		refuses(t, "bytes that were changed", b, api.ErrOp)
	}
	for keys := 1; keys < 17; keys++ {
		r := whole(keys)
		b := must(PrintReply(r))
		spoilKeys(r.Keys)
		if !bytes.Equal(b, replyForm(whole(keys))) || !bytes.Equal(must(PrintReply(r)), replyForm(r)) {
			t.Fatalf("%d keys: the form changed with them", keys)
		}
		x := must(ParseReply(b))
		spoil(b)
		if !sameReply(x, whole(keys)) {
			t.Fatalf("%d keys: changed with their form", keys)
		}
		refusesReply(t, "bytes that were changed", b)
	}
}

// TestP0_4NilIsEmpty holds that lists that are nil and empty ones are the same.
func TestP0_4NilIsEmpty(t *testing.T) {
	r := least(api.OpGet)
	form := formOf(r)
	for _, none := range [][]byte{nil, {}, form[:0], form[len(form):], make([]byte, 0, 300)} {
		r.Token = none
		prints(t, r, true)
		refuses(t, "none", none, 150)
		refusesReply(t, "none", none)
	}
	keys := whole(2).Keys
	for _, none := range [][]string{nil, {}, keys[:0], keys[2:], make([]string, 0, 30)} {
		x := whole(0)
		x.Keys = none
		replies(t, x, true)
	}
}

// TestP0_4AtOnce holds that calls that run at once don't meet in any memory.
func TestP0_4AtOnce(t *testing.T) {
	var all sync.WaitGroup
	r, x := most(api.OpSwap), whole(9)
	form, replied := formOf(r), replyForm(x)
	for i := range 8 {
		all.Go(func() {
			for n := range 100 {
				mine := least(uint8(1 + (i+n)%ops))
				b, e := Print(mine)
				back, f := Parse(b)
				if e != api.OK || f != api.OK || !sameRequest(back, mine) {
					t.Errorf("%d, %d: not as alone", i, n)
				}
				b, e = Print(r)
				y, f := Parse(form)
				if e != api.OK || f != api.OK || !bytes.Equal(b, form) || !sameRequest(y, r) {
					t.Errorf("%d, %d: a request that all of them hand in: not as alone", i, n)
				}
				b, e = PrintReply(x)
				z, f := ParseReply(replied)
				if e != api.OK || f != api.OK || !bytes.Equal(b, replied) || !sameReply(z, x) {
					t.Errorf("%d, %d: a reply: not as alone", i, n)
				}
			}
		})
	}
	all.Wait()
}
