package sha

import (
	"bytes"
	"testing"

	"seneschal/api"
)

// TestP0_1NobodyMade holds what each call tells of a hash that is nil, or that nobody made.
func TestP0_1NobodyMade(t *testing.T) {
	var none Hash
	for name, h := range map[string]*Hash{"nil": nil, "new(Hash)": new(Hash), "&Hash{}": {}, "a variable": &none} {
		for range 2 { // the second time: a call that was refused has made nothing
			for _, b := range [][]byte{nil, {}, {1}, some(64), some(65)} {
				if e := h.Write(b); e != api.ErrNil {
					t.Errorf("%s: Write of %d bytes: error %d", name, len(b), e)
				}
			}
			if x, e := h.Sum(); e != api.ErrNil || x != (api.Tag{}) {
				t.Errorf("%s: Sum: %x, error %d", name, x, e)
			}
			if h.Len() != 0 {
				t.Errorf("%s: Len %d", name, h.Len())
			}
		}
	}
}

// TestP0_3OthersStay holds that calls that are refused change no other hash, and not what is told later.
func TestP0_3OthersStay(t *testing.T) {
	h := New()
	put(t, h, some(70))
	ahead := must(t, h)
	var none *Hash
	none.Write(some(3))
	none.Sum()
	new(Hash).Write(some(3))
	new(Hash).Sum()
	if must(t, h) != ahead || h.Len() != 70 || must(t, New()) != want(nil) || Sum(some(9)) != want(some(9)) {
		t.Errorf("a call that is refused changes something")
	}
}

// TestP0_4NotChanged holds that bytes that are handed in aren't changed, the room behind them neither.
func TestP0_4NotChanged(t *testing.T) {
	for lead := range 70 {
		for _, n := range sizes() {
			m := some(n + 200)
			if got := Sum(m[:n]); got != want(m[:n]) {
				t.Fatalf("%d bytes with room behind: %x", n, got)
			}
			h := New()
			put(t, h, some(lead))
			put(t, h, m[:n])
			h.Sum()
			put(t, h, m[n:n])
			h.Sum()
			if !bytes.Equal(m, some(n+200)) {
				t.Fatalf("%d bytes behind %d: changed", n, lead)
			}
		}
	}
}

// TestP0_4NotKept holds that the caller may change its bytes, and the room behind them, behind a call.
func TestP0_4NotKept(t *testing.T) {
	for _, n := range sizes() {
		h := New()
		var all []byte
		m := make([]byte, n, n+100)
		for i := range 4 {
			for k := range m {
				m[k] = byte(7*k + i)
			}
			put(t, h, m)
			all = append(all, m...)
			for k := range m[:cap(m)] {
				m[:cap(m)][k] = 0xee
			}
			if got := must(t, h); got != want(all) || h.Len() != len(all) {
				t.Fatalf("%d bytes, %d times: Len %d, %x, not %x", n, i+1, h.Len(), got, want(all))
			}
		}
	}
}

// TestP0_4EachItsOwn holds that a tag is the caller's own, and a hash that is made too.
func TestP0_4EachItsOwn(t *testing.T) {
	h := New()
	put(t, h, some(80))
	x, y := must(t, h), Sum(some(80))
	clear(x[:])
	clear(y[:])
	if must(t, h) != want(some(80)) || Sum(some(80)) != want(some(80)) || New() == New() {
		t.Errorf("answers share")
	}
}

// TestP0_4NilIsEmpty holds that bytes that are nil and empty ones are the same.
func TestP0_4NilIsEmpty(t *testing.T) {
	for _, none := range [][]byte{nil, {}, some(9)[:0], some(9)[9:]} {
		h := New()
		put(t, h, none)
		if Sum(none) != want(nil) || h.Len() != 0 || must(t, h) != want(nil) {
			t.Errorf("of no bytes: %x, %x, Len %d", Sum(none), must(t, h), h.Len())
		}
	}
}
