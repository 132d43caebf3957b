package snap

import (
	"bytes"
	"crypto/sha256"
	"fmt"
	"math"
	"math/rand"
	"slices"
	"strings"
	"sync"
	"testing"

	"seneschal/api"
	"seneschal/quota"
	"seneschal/replies"
	"seneschal/space"
	"seneschal/state"
)

// piece is one of the lists of a state: what is in it, as a text, and how it is written over, with the room behind it.
type piece struct {
	name  string
	text  func() string
	spoil func()
}

// over tells how a list is written over, and what is put behind it.
func over[T any](name string, l []T, x T) piece {
	return piece{name, func() string { return fmt.Sprint(l) }, func() {
		_ = append(l, x)
		whole := l[:cap(l)]
		for i := range whole {
			whole[i] = x
		}
	}}
}

// lists tells a state's lists: those of tenants and replies ahead of the lists that these stand in.
func lists(s state.State) []piece {
	var l []piece
	for _, t := range s.Tenants {
		l = append(l, over("pairs", t.Space.Pairs, space.Pair{Key: "spoilt"}), over("revoked", t.Revoked, -7))
	}
	for _, x := range s.Lasts {
		l = append(l, over("keys", x.Reply.Keys, "spoilt"))
	}
	return append(l, over("shares", s.Shares, quota.Share{Tenant: -7}), over("links", s.Links, api.Link{N: -7}), over("tenants", s.Tenants, state.Tenant{Number: -7}), over("lasts", s.Lasts, replies.Last{Client: -7}))
}

// spoil writes over all lists of a state.
func spoil(s state.State) {
	for _, p := range lists(s) {
		p.spoil()
	}
}

// spoilBytes writes over bytes and all the room behind them.
func spoilBytes(b []byte) {
	b = b[:cap(b)]
	for i := range b {
		b[i] = ^b[i]
	}
}

// roomy tells the list with so much room behind it.
func roomy[T any](l []T, n int) []T { return slices.Grow(slices.Clip(slices.Clone(l)), n) }

// wide tells the state with so much room behind all its lists.
func wide(s state.State, n int) state.State {
	s = deep(s)
	s.Shares, s.Tenants, s.Links, s.Lasts = roomy(s.Shares, n), roomy(s.Tenants, n), roomy(s.Links, n), roomy(s.Lasts, n)
	for i := range s.Tenants {
		t := &s.Tenants[i]
		t.Space.Pairs, t.Revoked = roomy(t.Space.Pairs, n), roomy(t.Revoked, n)
	}
	for i := range s.Lasts {
		s.Lasts[i].Reply.Keys = roomy(s.Lasts[i].Reply.Keys, n)
	}
	return s
}

// whole tells the state with the room behind all its lists.
func whole(s state.State) state.State {
	s = state.State{Pos: s.Pos, Shares: s.Shares[:cap(s.Shares)], Tenants: slices.Clone(s.Tenants[:cap(s.Tenants)]), Links: s.Links[:cap(s.Links)], Lasts: slices.Clone(s.Lasts[:cap(s.Lasts)])}
	for i := range s.Tenants {
		t := &s.Tenants[i]
		t.Space.Pairs, t.Revoked = t.Space.Pairs[:cap(t.Space.Pairs)], t.Revoked[:cap(t.Revoked)]
	}
	for i := range s.Lasts {
		k := &s.Lasts[i].Reply.Keys
		*k = (*k)[:cap(*k)]
	}
	return s
}

// TestP0_1NoPanic holds that each call ends and does not panic, whatever it is handed, and what it tells of nothing at all.
func TestP0_1NoPanic(t *testing.T) {
	c := rand.New(rand.NewSource(1))
	for range 5000 {
		b := make([]byte, c.Intn(400))
		for i := range b {
			b[i] = byte(c.Intn(2) * c.Intn(2) * c.Intn(256)) // mostly 0, so that numbers are at times of what is there
		}
		holdsRestore(t, b)
		b = nil
		for range c.Intn(40) {
			b = append(b, numbers(c.Intn(3))...)
		}
		holdsRestore(t, b)
	}
	l := others()
	for range 3000 {
		s := base()
		for range 2 {
			if x := l[c.Intn(len(l))]; len(s.Shares) > 1 && len(s.Tenants) > 2 && len(s.Tenants[1].Space.Pairs) > 1 && len(s.Tenants[2].Space.Pairs) > 0 && len(s.Tenants[0].Revoked) > 0 && len(s.Tenants[1].Revoked) > 1 && len(s.Links) > 1 && len(s.Lasts) > 1 && len(s.Lasts[0].Reply.Keys) > 2 {
				x.change(&s)
			}
		}
		if b := Print(s); len(b) > 0 != state.May(s) || (Digest(s) != api.Tag{}) != state.May(s) {
			t.Fatalf("%x of\n%s", b, text(s))
		}
		holdsRestore(t, laid(s))
	}
	if b, d := Print(state.State{}), Digest(state.State{}); len(b) > 0 || d != (api.Tag{}) {
		t.Errorf("of nothing %x, %x", b, d)
	}
	if s, e := Restore(nil); e != 170 || text(s) != text(state.State{}) {
		t.Errorf("of nothing error %d\n%s", e, text(s))
	}
}

// TestP0_1Many holds the same of long lists, and of long texts.
func TestP0_1Many(t *testing.T) {
	s := base()
	s.Links = make([]api.Link, 1<<16) // links are whatever they are
	s.Lasts[0].Reply.Keys = make([]string, 1<<16)
	s.Lasts[1].Reply.Value = strings.Repeat("v", 1<<22)
	b := Print(s)
	if !bytes.Equal(b, laid(s)) || Digest(s) != sha256.Sum256(b) {
		t.Error("Print or Digest")
	}
	if u, e := Restore(b); e != 0 || !state.Same(s, u) {
		t.Errorf("error %d", e)
	}
	if u, e := Restore(b[:len(b)-1]); e != 170 || text(u) != text(state.State{}) {
		t.Errorf("error %d", e)
	}
	s.Shares = make([]quota.Share, 1<<16)
	if len(Print(s)) > 0 || (Digest(s) != api.Tag{}) {
		t.Error("of a state that may not be")
	}
	if u, e := Restore(laid(s)); e != 170 || text(u) != text(state.State{}) {
		t.Errorf("error %d", e)
	}
}

// TestP0_1NoRoom holds that numbers of what isn't there take neither time nor memory: each list of as many as a number tells, and none of them.
func TestP0_1NoRoom(t *testing.T) {
	tenant, last := []any{0, 0, 1, 0, 1, 0, 0}, []any{0, 0, 1, 0, 1, 0, 0, 0, 0, 0, 1, 0, 1, 0}
	for _, n := range []int{1 << 31, 1 << 33, 1 << 36, clock, 1 << 50, 1 << 60, math.MaxInt} {
		for _, l := range [][]any{{0}, {0, 0}, tenant, append(slices.Clone(tenant), 0), tenant[:5], {0, 0, 1, 0, 1, 0, 0, 0, 0}, {0, 0, 1, 0, 1, 0, 0, 0, 0, 0}, last, append(slices.Clone(last), "")} {
			b := spelt(append(slices.Clone(l), n)...)
			for _, more := range []int{0, 1, 7, 8, 48, 200} {
				if holdsRestore(t, append(slices.Clip(b), make([]byte, more)...)) {
					t.Fatalf("%v, %d", l, n)
				}
			}
		}
	}
}

// TestP0_2ZeroBesideError holds that beside ErrSnap there is nothing of a state, wherever the bytes are found to be none.
func TestP0_2ZeroBesideError(t *testing.T) {
	none := func(b []byte) {
		t.Helper()
		s, e := Restore(b)
		if e != errSnap || s.Pos != 0 || s.Shares != nil || s.Tenants != nil || s.Links != nil || s.Lasts != nil {
			t.Fatalf("error %d of %x\n%s", e, b, text(s))
		}
	}
	b := laid(base())
	for cut := range b {
		none(b[:cut])
	}
	none(append(slices.Clone(b), 0))
	for _, x := range others() {
		s := base()
		if x.change(&s); !state.May(s) {
			none(laid(s))
			if p, d := Print(s), Digest(s); p != nil || d != (api.Tag{}) {
				t.Fatalf("%s: %x, %x", x.name, p, d)
			}
		}
	}
}

// TestP0_3NothingStays holds that nothing is kept from call to call: behind calls that are refused, or done, the others answer as ahead of them.
func TestP0_3NothingStays(t *testing.T) {
	b := laid(base())
	for cut := range b {
		Restore(b[:cut])
		Print(state.State{})
		Digest(state.State{Pos: cut})
		if s, e := Restore(b); e != 0 || text(s) != text(base()) {
			t.Fatalf("error %d\n%s", e, text(s))
		}
		if !bytes.Equal(Print(base()), b) || Digest(base()) != sha256.Sum256(b) || !bytes.Equal(Print(state.New()), firstBytes()) {
			t.Fatal("Print or Digest")
		}
		if s, e := Restore(firstBytes()); e != 0 || text(s) != text(state.New()) {
			t.Fatalf("error %d\n%s", e, text(s))
		}
	}
}

// TestP0_4NotChanged holds that what is handed in isn't changed, nor what is in the room behind it, which doesn't count either.
func TestP0_4NotChanged(t *testing.T) {
	for _, n := range []int{0, 1, 9} {
		for _, of := range []state.State{base(), full(), state.New(), {Links: base().Links}} {
			s := wide(of, n)
			was := text(whole(s))
			b, d := Print(s), Digest(s)
			if text(whole(s)) != was || !bytes.Equal(b, Print(of)) || d != Digest(of) {
				t.Fatalf("room %d: from\n%sto\n%s", n, was, text(whole(s)))
			}
		}
	}
	first := laid(base())
	all := slices.Concat(first, first)
	for cut := range all {
		s, e := Restore(all[:cut])
		if is := cut == len(first); is != (e == 0) || is && text(s) != text(base()) {
			t.Fatalf("%d bytes: error %d\n%s", cut, e, text(s))
		}
		if !bytes.Equal(all, slices.Concat(first, first)) {
			t.Fatalf("%d bytes: changed", cut)
		}
	}
}

// TestP0_4NotShared holds that bytes and states that are told are new memory, with the room behind them: not what was handed in, and not another answer's.
func TestP0_4NotShared(t *testing.T) {
	for _, n := range []int{0, 1, 9, 999} {
		s := wide(base(), n)
		a, b := Print(s), Print(s)
		spoilBytes(a)
		if !bytes.Equal(b, laid(base())) || text(s) != text(base()) || !bytes.Equal(Print(s), b) {
			t.Fatalf("room %d: bytes are shared", n)
		}
		form := roomy(b, n)
		x, _ := Restore(form)
		y, _ := Restore(form)
		spoil(x)
		if text(y) != text(base()) || !bytes.Equal(form, b) || !bytes.Equal(Print(y), b) {
			t.Fatalf("room %d: a state is shared", n)
		}
		if x, _ = Restore(form); text(x) != text(base()) {
			t.Fatalf("room %d: a state is kept", n)
		}
	}
}

// TestP0_4NotKept holds that the caller may change what it handed in behind a call: what was told stays, and the next call looks at it anew.
func TestP0_4NotKept(t *testing.T) {
	s := wide(base(), 9)
	b := Print(s)
	spoil(s)
	if !bytes.Equal(b, laid(base())) || len(Print(s)) > 0 || (Digest(s) != api.Tag{}) {
		t.Error("the bytes change as the state does")
	}
	x, _ := Restore(b)
	spoilBytes(b)
	if text(x) != text(base()) || !bytes.Equal(Print(x), laid(base())) {
		t.Errorf("the state changes as its bytes do:\n%s", text(x))
	}
	if _, e := Restore(b); e != 170 {
		t.Errorf("error %d of bytes that were changed", e)
	}
}

// TestP0_4NoTwoShare holds that no two lists of one state that is told share anything.
func TestP0_4NoTwoShare(t *testing.T) {
	same := base()
	same.Tenants[2].Space = space.Space{Keys: 2, Bytes: 50, Pairs: same.Tenants[1].Space.Pairs}
	same.Tenants[2].Revoked = same.Tenants[1].Revoked
	same.Tenants[0].Revoked = same.Tenants[1].Revoked
	same.Lasts[1].Reply.Keys = same.Lasts[0].Reply.Keys
	for _, of := range []state.State{base(), full(), same} {
		s, e := Restore(laid(of))
		if e != 0 {
			t.Fatalf("error %d", e)
		}
		if x, y := apart(lists(s)); x != y {
			t.Fatalf("list %d shares with list %d of\n%s", x, y, text(of))
		}
	}
}

// apart writes over lists, one behind the other, and tells the first one that changes one that isn't written over yet, and that; twice the same, if none does. (The lists that tenants and replies stand in come last, as these lists are told in their texts.)
func apart(l []piece) (int, int) {
	inner := len(l) - 2
	for i, x := range l {
		var was []string
		for _, y := range l[:inner] {
			was = append(was, y.text())
		}
		x.spoil()
		for k, y := range l[:inner] {
			if k != i && y.text() != was[k] {
				return i, k
			}
		}
	}
	return 0, 0
}

// TestP0_4NilIsEmpty holds that lists that are nil and empty ones are the same, wherever they stand.
func TestP0_4NilIsEmpty(t *testing.T) {
	bare := state.State{Tenants: []state.Tenant{{Serials: 1}, {Number: 2}}, Shares: []quota.Share{{Tenant: 2}}, Lasts: []replies.Last{{Client: 1, ID: 1}}}
	for _, s := range []state.State{bare, state.New()} {
		if b := Print(deep(s)); !bytes.Equal(b, Print(s)) || !bytes.Equal(b, laid(s)) || Digest(deep(s)) != Digest(s) {
			t.Errorf("%x of\n%s", b, text(s))
		}
	}
	if len(Print(deep(state.State{}))) > 0 || (Digest(deep(state.State{})) != api.Tag{}) {
		t.Error("of nothing")
	}
	b := laid(base())
	for _, none := range [][]byte{nil, {}, b[:0], b[len(b):], make([]byte, 0, 300)} {
		if _, e := Restore(none); e != 170 {
			t.Errorf("error %d", e)
		}
	}
}

// TestP0_4AtOnce holds that calls that run at once don't meet in any memory.
func TestP0_4AtOnce(t *testing.T) {
	var done sync.WaitGroup
	s := wide(base(), 9)
	form := laid(base())
	for range 8 {
		done.Go(func() {
			for n := range 100 {
				b := Print(s)
				if !bytes.Equal(b, form) || Digest(s) != sha256.Sum256(form) {
					t.Error("Print or Digest: not as alone")
				}
				spoilBytes(b)
				x, e := Restore(form)
				if e != 0 || text(x) != text(base()) {
					t.Error("Restore: not as alone")
				}
				spoil(x)
				if _, e := Restore(form[:n]); e != 170 {
					t.Errorf("error %d: not as alone", e)
				}
			}
		})
	}
	done.Wait()
}
