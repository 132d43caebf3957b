package wire

import (
	"bytes"
	"math"
	"sync"
	"testing"

	"seneschal/api"
)

// TestP0_1NobodyMadeWriter holds what each call answers of a writer that is nil, or that nobody made.
func TestP0_1NobodyMadeWriter(t *testing.T) {
	var none Writer
	for name, w := range map[string]*Writer{"nil": nil, "new(Writer)": new(Writer), "&Writer{}": {}, "a variable": &none} {
		for range 2 { // the second time: a call that was refused has made nothing
			for _, f := range append(fields(), someBytes(make([]byte, 2*api.MaxBytes))) {
				if f.write(w) != w {
					t.Errorf("%s: %s answers another writer", name, f.name)
				}
			}
			if b, e := w.Done(); e != api.ErrNil || len(b) != 0 {
				t.Errorf("%s: Done: %d bytes, error %d", name, len(b), e)
			}
		}
		if w != nil && (w.form != nil || w.made || w.long) {
			t.Errorf("%s: something is kept", name)
		}
	}
}

// TestP0_1NobodyMadeReader holds the same of a reader.
func TestP0_1NobodyMadeReader(t *testing.T) {
	var none Reader
	for name, r := range map[string]*Reader{"nil": nil, "new(Reader)": new(Reader), "&Reader{}": {}, "a variable": &none} {
		isBad(t, name, r, api.ErrNil)
		isBad(t, name+", again", r, api.ErrNil)
		if r != nil && (r.rest != nil || r.made || r.why != api.OK) {
			t.Errorf("%s: something is kept", name)
		}
	}
}

// TestP0_1NoPanic holds that each call ends and does not panic, on whatever bytes, at whatever argument.
func TestP0_1NoPanic(t *testing.T) {
	lists := [][]byte{nil, {}, {0}, {1}, {255}, some(3), some(4), some(7), some(8), some(9), some(31), some(32), some(33), make([]byte, 100), bytes.Repeat([]byte{0xff}, 100), make([]byte, api.MaxBytes), make([]byte, api.MaxBytes+1)}
	for _, b := range lists {
		NewWriter().Bytes(b).Text(string(b)).Done()
		for _, most := range []int{math.MinInt, -1, 0, 1, math.MaxInt} {
			NewReader(b).Count(most)
			(*Reader)(nil).Count(most)
			new(Reader).Count(most)
		}
		for _, first := range calls() {
			for _, then := range calls() {
				r := NewReader(b)
				for range 5 {
					first(r)
					then(r)
				}
				r.Left()
				r.End()
			}
		}
	}
}

// TestP0_2ZeroBesideError holds that beside an error there are no bytes, and of a bad reader no part of a field.
func TestP0_2ZeroBesideError(t *testing.T) {
	if b, e := NewWriter().Byte(1).Bytes(make([]byte, api.MaxBytes)).Done(); b != nil || e != api.ErrLong {
		t.Errorf("Done of one too long: %d bytes, error %d", len(b), e)
	}
	if b, e := (*Writer)(nil).Byte(1).Done(); b != nil || e != api.ErrNil {
		t.Errorf("Done of nil: %d bytes, error %d", len(b), e)
	}
	for n := range 32 {
		full := bytes.Repeat([]byte{0xff}, n)
		if r := NewReader(full); r.Tag() != (api.Tag{}) || r.Err() != api.ErrWire {
			t.Errorf("Tag of %d bytes", n)
		}
		if r := NewReader(full[:n%8]); r.Int() != 0 || r.Err() != api.ErrWire {
			t.Errorf("Int of %d bytes", n%8)
		}
		if r := NewReader(append([]byte{0, 0, 0, byte(n + 1)}, full...)); r.Bytes() != nil || r.Err() != api.ErrWire {
			t.Errorf("Bytes of %d bytes, one less than their length", n)
		}
	}
}

// TestP0_3OthersStay holds that calls that are refused change no writer or reader that was made, and not what is told later.
func TestP0_3OthersStay(t *testing.T) {
	w, r := NewWriter().Byte(7), NewReader([]byte{7, 8})
	for range 2 {
		new(Writer).Byte(1).Done()
		(*Writer)(nil).Int(2).Done()
		NewWriter().Bytes(make([]byte, api.MaxBytes)).Done()
		new(Reader).Byte()
		NewReader(make([]byte, api.MaxBytes+1)).Byte()
		NewReader(nil).Tag()
		if r.End() != api.ErrWire || r.Left() != 2 {
			t.Errorf("End takes something: Left %d", r.Left())
		}
	}
	if !bytes.Equal(must(t, w.Byte(9)), []byte{7, 9}) || r.Byte() != 7 || r.Byte() != 8 || r.End() != api.OK {
		t.Errorf("a call that is refused changes something")
	}
}

// TestP0_4NotChanged holds that bytes that are handed in aren't changed, the room behind them neither.
func TestP0_4NotChanged(t *testing.T) {
	for _, n := range []int{0, 1, 2, 3, 4, 8, 32, 100, 500} {
		m := some(n + 600)
		w := NewWriter().Bytes(m[:n]).Byte(1).Bytes(m[n : n+3]).Int(2)
		must(t, w.Tag(api.Tag{}))
		for _, call := range calls() {
			r := NewReader(m[:n])
			for range 4 {
				call(r)
			}
		}
		r := NewReader(m[:n])
		for range n {
			r.Byte()
		}
		if !bytes.Equal(m, some(n+600)) {
			t.Fatalf("%d bytes: changed", n)
		}
	}
}

// TestP0_4NotKept holds that the caller may change its bytes, and the room behind them, behind a call.
func TestP0_4NotKept(t *testing.T) {
	for _, n := range []int{1, 2, 5, 32, 100, 5000} {
		m := append(make([]byte, 0, n+100), some(n)...)
		w := NewWriter().Bytes(m)
		spoil(m)
		w.Byte(1)
		if b := must(t, w); !bytes.Equal(b[4:4+n], some(n)) || b[4+n] != 1 {
			t.Fatalf("%d bytes: a writer keeps what was handed in", n)
		}
		m = append(make([]byte, 0, n+100), some(n)...)
		r := NewReader(m)
		spoil(m)
		if !bytes.Equal(rest(r), some(n)) {
			t.Fatalf("%d bytes: a reader keeps what was handed in", n)
		}
	}
}

// spoil writes over bytes and all the room behind them.
func spoil(b []byte) {
	b = b[:cap(b)]
	for i := range b {
		b[i] = ^b[i]
	}
}

// TestP0_4DoneIsNew holds that a form is new memory, with the room behind it: no writer's, and no other form's.
func TestP0_4DoneIsNew(t *testing.T) {
	for _, n := range []int{0, 1, 7, 100, 5000} {
		w := NewWriter().Bytes(some(n)).Byte(1)
		a, b := must(t, w), must(t, w)
		want := bytes.Clone(b)
		spoil(a)
		if !bytes.Equal(b, want) || !bytes.Equal(must(t, w), want) {
			t.Fatalf("%d bytes: forms of one writer share", n)
		}
		w.Byte(2)
		if !bytes.Equal(b, want) || !bytes.Equal(must(t, w), append(want, 2)) {
			t.Fatalf("%d bytes: a field that is put behind changes a form that was told", n)
		}
		if c := append(b, 9); !bytes.Equal(must(t, w), append(want, 2)) || c[len(b)] != 9 {
			t.Fatalf("%d bytes: a form's room is the writer's", n)
		}
	}
}

// TestP0_4ReadIsNew holds the same of bytes that are read.
func TestP0_4ReadIsNew(t *testing.T) {
	for _, n := range []int{0, 1, 2, 3, 9, 100} {
		form := must(t, NewWriter().Bytes(some(n)).Bytes(some(n)).Byte(1).Text("abc"))
		want := bytes.Clone(form)
		r := NewReader(form)
		a := r.Bytes()
		spoil(a)
		b := r.Bytes()
		if !bytes.Equal(b, some(n)) {
			t.Fatalf("%d bytes: the first ones share the second ones", n)
		}
		spoil(b)
		if r.Byte() != 1 || r.Text() != "abc" || r.End() != api.OK || !bytes.Equal(form, want) {
			t.Fatalf("%d bytes: what is read shares the reader's", n)
		}
	}
}

// TestP0_4NilIsEmpty holds that lists that are nil and empty ones are the same.
func TestP0_4NilIsEmpty(t *testing.T) {
	for _, none := range [][]byte{nil, {}, some(9)[:0], some(9)[9:]} {
		if !bytes.Equal(must(t, NewWriter().Bytes(none)), make([]byte, 4)) {
			t.Errorf("Bytes of none, room %d", cap(none))
		}
		r := NewReader(none)
		if r.Err() != api.OK || r.End() != api.OK || r.Left() != 0 {
			t.Errorf("a reader of none, room %d: Err %d", cap(none), r.Err())
		}
		if r.Byte() != 0 || r.Err() != api.ErrWire {
			t.Errorf("a reader of none, room %d: a byte", cap(none))
		}
	}
}

// TestP0_4AtOnce holds that writers and readers that are at work at once don't meet in any memory.
func TestP0_4AtOnce(t *testing.T) {
	var all sync.WaitGroup
	m := some(1000)
	for i := range 8 {
		all.Go(func() {
			for n := range 200 {
				b, e := NewWriter().Int(i).Bytes(m[:n]).Done()
				r := NewReader(b)
				if e != api.OK || r.Int() != i || !bytes.Equal(r.Bytes(), m[:n]) || r.End() != api.OK {
					t.Errorf("%d, %d bytes: not as alone", i, n)
				}
			}
		})
	}
	all.Wait()
}
