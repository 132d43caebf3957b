package wire

import (
	"bytes"
	"encoding/binary"
	"math"
	"math/rand"
	"slices"
	"strings"
	"testing"

	"seneschal/api"
)

// some tells bytes that are hardly ever the same at two places.
func some(n int) []byte {
	b := make([]byte, n)
	rand.New(rand.NewSource(int64(n))).Read(b)
	return b
}

// field is one field: how it is written, its bytes as another program works them out, and whether a reader reads it as it was.
type field struct {
	name  string
	write func(w *Writer) *Writer
	form  []byte
	read  func(r *Reader) bool
}

func aByte(x byte) field {
	return field{"Byte", func(w *Writer) *Writer { return w.Byte(x) }, []byte{x}, func(r *Reader) bool { return r.Byte() == x }}
}

func anInt(n int) field {
	return field{"Int", func(w *Writer) *Writer { return w.Int(n) }, binary.BigEndian.AppendUint64(nil, uint64(n)), func(r *Reader) bool { return r.Int() == n }}
}

func aFlag(is bool) field {
	form := []byte{0}
	if is {
		form[0]++
	}
	return field{"Flag", func(w *Writer) *Writer { return w.Flag(is) }, form, func(r *Reader) bool { return r.Flag() == is }}
}

func someBytes(b []byte) field {
	form := append(binary.BigEndian.AppendUint32(nil, uint32(len(b))), b...)
	return field{"Bytes", func(w *Writer) *Writer { return w.Bytes(b) }, form, func(r *Reader) bool { return bytes.Equal(r.Bytes(), b) }}
}

func aText(s string) field {
	form := append(binary.BigEndian.AppendUint32(nil, uint32(len(s))), s...)
	return field{"Text", func(w *Writer) *Writer { return w.Text(s) }, form, func(r *Reader) bool { return r.Text() == s }}
}

func aTag(t api.Tag) field {
	return field{"Tag", func(w *Writer) *Writer { return w.Tag(t) }, bytes.Clone(t[:]), func(r *Reader) bool { return r.Tag() == t }}
}

// numbers tells ints around 0, with one bit, and at the ends of what 4 and 8 bytes hold.
func numbers() []int {
	l := []int{0, 1, -1, 2, -2, 255, 256, 258, -256, api.MaxBytes, math.MaxInt32, math.MinInt32, math.MaxUint32, math.MaxUint32 + 1, math.MinInt, math.MinInt + 1, math.MaxInt, 0x0102030405060708, -0x0102030405060708}
	for i := range 64 {
		l = append(l, 1<<i)
	}
	return l
}

// fields tells fields of each kind, with what is ordinary, and with what stands at edges.
func fields() []field {
	var l []field
	for x := range 256 {
		l = append(l, aByte(byte(x)))
	}
	for _, n := range numbers() {
		l = append(l, anInt(n))
	}
	for _, n := range []int{0, 1, 2, 3, 31, 32, 255, 256, 1000} {
		l = append(l, someBytes(some(n)), someBytes(make([]byte, n)), aText(string(some(n))), aText(strings.Repeat("\x00", n)))
	}
	for _, s := range []string{"ab", "\xff", "\xed\xa0\x80", "é\u0301 日", "\ufeff", "a\x00b", "\r\n"} {
		l = append(l, aText(s), someBytes([]byte(s)))
	}
	return append(l, aFlag(true), aFlag(false), someBytes(nil), aTag(api.Tag{}), aTag(api.Tag(some(32))), aTag(api.Tag(bytes.Repeat([]byte{0xff}, 32))))
}

// written tells the form of fields, and their bytes one behind the other.
func written(t *testing.T, l []field) (form, want []byte) {
	t.Helper()
	w := NewWriter()
	for _, f := range l {
		if f.write(w) != w {
			t.Fatalf("%s: another writer", f.name)
		}
		want = append(want, f.form...)
	}
	return must(t, w), want
}

// must tells the form of a writer that has one.
func must(t *testing.T, w *Writer) []byte {
	t.Helper()
	b, e := w.Done()
	if e != api.OK {
		t.Fatalf("Done: error %d", e)
	}
	return b
}

// calls tells each of a reader's calls that take a field, as one that answers whether a zero value was told.
func calls() map[string]func(r *Reader) bool {
	return map[string]func(r *Reader) bool{
		"Byte":  func(r *Reader) bool { return r.Byte() == 0 },
		"Int":   func(r *Reader) bool { return r.Int() == 0 },
		"Flag":  func(r *Reader) bool { return !r.Flag() },
		"Bytes": func(r *Reader) bool { return len(r.Bytes()) == 0 },
		"Text":  func(r *Reader) bool { return r.Text() == "" },
		"Tag":   func(r *Reader) bool { return r.Tag() == api.Tag{} },
		"Count": func(r *Reader) bool { return r.Count(math.MaxInt) == 0 },
	}
}

// isBad holds that a reader is bad for that reason, and stays so whatever it is asked.
func isBad(t *testing.T, what string, r *Reader, why api.Errno) {
	t.Helper()
	for name, zero := range calls() {
		if r.Err() != why || r.End() != why || r.Left() != 0 {
			t.Fatalf("%s: Err %d, End %d, Left %d, not %d, %d, 0", what, r.Err(), r.End(), r.Left(), why, why)
		}
		if !zero(r) {
			t.Fatalf("%s, bad: %s tells something", what, name)
		}
	}
	if r.Err() != why || r.End() != why || r.Left() != 0 {
		t.Fatalf("%s: Err %d, End %d, Left %d behind all calls", what, r.Err(), r.End(), r.Left())
	}
}

func TestP4_1Examples(t *testing.T) {
	for i, c := range []struct {
		w    *Writer
		want []byte
	}{
		{NewWriter(), nil},
		{NewWriter().Byte(7).Int(258).Flag(true), []byte{7, 0, 0, 0, 0, 0, 0, 1, 2, 1}},
		{NewWriter().Text("ab").Bytes(nil), []byte{0, 0, 0, 2, 97, 98, 0, 0, 0, 0}},
		{NewWriter().Int(-2).Flag(false), []byte{255, 255, 255, 255, 255, 255, 255, 254, 0}},
		{NewWriter().Bytes([]byte{9, 8}).Text(""), []byte{0, 0, 0, 2, 9, 8, 0, 0, 0, 0}},
		{NewWriter().Int(math.MinInt), []byte{128, 0, 0, 0, 0, 0, 0, 0}},
		{NewWriter().Tag(api.Tag{1, 2, 31: 3}).Byte(0), append([]byte{1, 2, 31: 3}, 0)},
		{NewWriter().Bytes(some(258)), append([]byte{0, 0, 1, 2}, some(258)...)},
	} {
		if got := must(t, c.w); !bytes.Equal(got, c.want) {
			t.Errorf("%d: %v, not %v", i, got, c.want)
		}
	}
}

func TestP4_1EachField(t *testing.T) {
	all := fields()
	for i, f := range all {
		if got, want := written(t, all[i:i+1]); !bytes.Equal(got, want) {
			t.Fatalf("%s: %v, not %v", f.name, got, want)
		}
	}
	if got, want := written(t, all); !bytes.Equal(got, want) {
		t.Fatalf("all, one behind the other: not their bytes")
	}
	slices.Reverse(all)
	if got, want := written(t, all); !bytes.Equal(got, want) {
		t.Fatalf("all, the last one ahead: not their bytes")
	}
}

// TestP4_1DoneInBetween holds that asking for the form changes nothing, and that fields go behind it.
func TestP4_1DoneInBetween(t *testing.T) {
	w := NewWriter()
	var want []byte
	for _, f := range fields() {
		f.write(w)
		want = append(want, f.form...)
		for range 2 {
			if !bytes.Equal(must(t, w), want) {
				t.Fatalf("behind %s: not the form", f.name)
			}
		}
	}
}

// TestP4_1Long holds that a form may have MaxBytes bytes, and no more, whichever field goes over it, and by how much.
func TestP4_1Long(t *testing.T) {
	for _, f := range fields() {
		for more := -2; more <= len(f.form); more++ {
			ahead := api.MaxBytes - len(f.form) + more
			if ahead > api.MaxBytes {
				continue
			}
			filled := map[string]*Writer{"bytes": NewWriter().Bytes(make([]byte, ahead-4)), "texts": NewWriter().Text("").Text(strings.Repeat("a", ahead-9)).Byte(5)}
			for name, w := range filled {
				b, e := f.write(w).Done()
				if more > 0 && (e != api.ErrLong || len(b) != 0) {
					t.Fatalf("%s of %d bytes, %d too many behind %s: %d bytes, error %d", f.name, len(f.form), more, name, len(b), e)
				}
				if more <= 0 && (e != api.OK || len(b) != api.MaxBytes+more || !bytes.HasSuffix(b, f.form)) {
					t.Fatalf("%s of %d bytes, %d to go behind %s: %d bytes, error %d", f.name, len(f.form), -more, name, len(b), e)
				}
			}
		}
	}
}

// TestP4_1LongOfSmall holds the same of a form whose fields are all small, to the last byte.
func TestP4_1LongOfSmall(t *testing.T) {
	for _, f := range []field{aByte(9), anInt(9), aFlag(true), someBytes(nil), aText("abcd"), aTag(api.Tag{9})} {
		w := NewWriter()
		for range api.MaxBytes / len(f.form) {
			f.write(w)
		}
		if b := must(t, w); !bytes.Equal(b, bytes.Repeat(f.form, api.MaxBytes/len(f.form))) {
			t.Fatalf("%s: %d bytes, not MaxBytes of it", f.name, len(b))
		}
		if b, e := f.write(w).Done(); e != api.ErrLong || len(b) != 0 {
			t.Fatalf("%s: one too many: %d bytes, error %d", f.name, len(b), e)
		}
	}
}

// TestP4_1LongAlone holds a field that alone has too many bytes, with its length and without.
func TestP4_1LongAlone(t *testing.T) {
	for _, n := range []int{api.MaxBytes - 4, api.MaxBytes - 3, api.MaxBytes - 1, api.MaxBytes, api.MaxBytes + 1, 2 * api.MaxBytes, 1 << 22} {
		want := api.ErrLong
		if n+4 <= api.MaxBytes {
			want = api.OK
		}
		if b, e := NewWriter().Bytes(some(n)).Done(); e != want || e == api.OK && !bytes.Equal(b[4:], some(n)) {
			t.Errorf("Bytes of %d: %d bytes, error %d", n, len(b), e)
		}
		if b, e := NewWriter().Text(string(some(n))).Done(); e != want || e == api.OK && !bytes.Equal(b[4:], some(n)) {
			t.Errorf("Text of %d: %d bytes, error %d", n, len(b), e)
		}
	}
}

// TestP4_1LongStays holds that a form that is too long is so for good: what is put behind it is not the beginning of another one.
func TestP4_1LongStays(t *testing.T) {
	for _, w := range []*Writer{
		NewWriter().Byte(1).Bytes(make([]byte, api.MaxBytes)),
		NewWriter().Text(strings.Repeat("a", api.MaxBytes+9)),
		NewWriter().Bytes(make([]byte, api.MaxBytes-4)).Byte(1),
		NewWriter().Bytes(make([]byte, api.MaxBytes-4)).Flag(false),
		NewWriter().Bytes(make([]byte, api.MaxBytes-4-31)).Tag(api.Tag{}),
	} {
		for _, f := range fields() {
			if f.write(w) != w {
				t.Fatalf("%s: another writer", f.name)
			}
			if b, e := w.Done(); e != api.ErrLong || len(b) != 0 || len(w.form) != 0 {
				t.Fatalf("%s behind one too long: %d bytes, error %d, %d bytes kept", f.name, len(b), e, len(w.form))
			}
		}
	}
}

// TestP4_1EachWriterItsOwn holds that writers at work at once don't meet.
func TestP4_1EachWriterItsOwn(t *testing.T) {
	a, b, long := NewWriter(), NewWriter(), NewWriter().Bytes(make([]byte, api.MaxBytes))
	for i := range 300 {
		a.Byte(byte(i))
		b.Int(i)
		long.Byte(1)
	}
	if x, y := must(t, a), must(t, b); len(x) != 300 || x[299] != 299%256 || len(y) != 2400 || y[2399] != 299%256 || len(must(t, NewWriter())) != 0 {
		t.Errorf("%d, %d bytes", len(x), len(y))
	}
}

func TestP4_2Examples(t *testing.T) {
	r := NewReader([]byte{0, 0, 0, 2, 97})
	if s := r.Text(); s != "" {
		t.Errorf("Text of one that isn't there whole: %q", s)
	}
	isBad(t, "Text", r, api.ErrWire)
	r = NewReader([]byte{1, 9})
	if !r.Flag() || r.Err() != api.OK || r.Left() != 1 || r.Flag() {
		t.Errorf("Flag, Flag of 1 9")
	}
	isBad(t, "Flag of 9", r, api.ErrWire)
	r = NewReader([]byte{1, 2})
	if r.Byte() != 1 || r.End() != api.ErrWire || r.Err() != api.OK {
		t.Errorf("Byte of 1 2")
	}
}

// TestP4_2EachField holds that each field is read from its bytes, and not one byte more is taken.
func TestP4_2EachField(t *testing.T) {
	for _, f := range fields() {
		for behind := range 3 {
			r := NewReader(slices.Concat(f.form, []byte{7, 8}[:behind]))
			if !f.read(r) || r.Err() != api.OK || r.Left() != behind {
				t.Fatalf("%s, %v: Err %d, Left %d", f.name, f.form, r.Err(), r.Left())
			}
		}
	}
	all := fields()
	form, _ := written(t, all)
	r, left := NewReader(form), len(form)
	for _, f := range all {
		left -= len(f.form)
		if !f.read(r) || r.Err() != api.OK || r.Left() != left {
			t.Fatalf("%s among all: Err %d, Left %d, not %d", f.name, r.Err(), r.Left(), left)
		}
	}
}

// TestP4_2NotThere holds that of each beginning of a field nothing is read, and that the reader is bad then.
func TestP4_2NotThere(t *testing.T) {
	for _, f := range fields() {
		for n := range f.form {
			for lead := range 3 {
				r := NewReader(append(bytes.Repeat([]byte{1}, lead), f.form[:n]...)) // the room behind it holds what is missing
				for range lead {
					r.Byte()
				}
				if !calls()[f.name](r) {
					t.Fatalf("%s, %d of its %d bytes: something", f.name, n, len(f.form))
				}
				isBad(t, f.name, r, api.ErrWire)
			}
		}
	}
}

func TestP4_2Flags(t *testing.T) {
	for x := 2; x < 256; x++ {
		r := NewReader([]byte{byte(x), 1, 1, 1})
		if r.Flag() {
			t.Fatalf("Flag of %d: yes", x)
		}
		isBad(t, "Flag", r, api.ErrWire)
	}
}

// TestP4_2Lengths holds lengths that are as great as what is there, that go over it, and that go over MaxBytes.
func TestP4_2Lengths(t *testing.T) {
	for _, there := range []int{0, 1, 2, 200, 300, 65530, 65531, 65532} {
		for _, n := range []uint32{0, 1, 2, 199, 200, 201, 300, 65530, 65531, 65532, 65533, 65535, 65536, 65537, 1 << 24, math.MaxInt32, math.MaxInt32 + 1, 0xff000000, math.MaxUint32 - 3, math.MaxUint32} {
			form := append(binary.BigEndian.AppendUint32(nil, n), some(there)...)
			b, s := NewReader(form), NewReader(form)
			x, y := b.Bytes(), s.Text()
			if uint64(n) > uint64(there) {
				if len(x) != 0 || y != "" {
					t.Fatalf("length %d of %d bytes: something", n, there)
				}
				isBad(t, "Bytes", b, api.ErrWire)
				isBad(t, "Text", s, api.ErrWire)
			} else if !bytes.Equal(x, form[4:4+n]) || y != string(x) || b.Left() != there-int(n) || s.Left() != b.Left() || b.Err() != api.OK || s.Err() != api.OK {
				t.Fatalf("length %d of %d bytes: %d, %d bytes, %d, %d left", n, there, len(x), len(y), b.Left(), s.Left())
			}
		}
	}
}

// TestP4_2Long holds that a reader may have MaxBytes bytes, and one of more is bad from the beginning on.
func TestP4_2Long(t *testing.T) {
	for _, n := range []int{api.MaxBytes + 1, api.MaxBytes + 8, 2 * api.MaxBytes, 1 << 22} {
		for name, zero := range calls() {
			r := NewReader(bytes.Repeat([]byte{1}, n))
			if !zero(r) {
				t.Fatalf("%s of %d bytes: something", name, n)
			}
			isBad(t, name, r, api.ErrLong)
		}
		isBad(t, "from the beginning on", NewReader(make([]byte, n)), api.ErrLong)
	}
	for _, n := range []int{api.MaxBytes - 1, api.MaxBytes} {
		r := NewReader(bytes.Repeat([]byte{1}, n))
		for i := range n {
			if r.Left() != n-i || r.Err() != api.OK || r.End() != api.ErrWire || r.Byte() != 1 {
				t.Fatalf("%d bytes, %d taken: Left %d, Err %d", n, i, r.Left(), r.Err())
			}
		}
		if r.Err() != api.OK || r.End() != api.OK || r.Byte() != 0 || r.Err() != api.ErrWire {
			t.Fatalf("%d bytes, to the end: Err %d", n, r.Err())
		}
	}
}

// TestP4_2EachReaderItsOwn holds that readers of the same bytes don't meet.
func TestP4_2EachReaderItsOwn(t *testing.T) {
	form := []byte{1, 2, 3}
	a, b := NewReader(form), NewReader(form)
	a.Byte()
	a.Flag()
	if b.Err() != api.OK || b.Left() != 3 || b.Byte() != 1 || b.Byte() != 2 || b.Byte() != 3 || b.End() != api.OK {
		t.Errorf("one that is bad spoils the other")
	}
	isBad(t, "Flag of 2", a, api.ErrWire)
}

func TestP4_3Count(t *testing.T) {
	for _, left := range []int{0, 1, 2, 3, 7, 8, 9, 100} {
		for _, n := range append(numbers(), left-1, left, left+1) {
			for _, most := range []int{math.MinInt, -2, -1, 0, 1, 2, 3, 7, 8, 9, 99, 100, 101, n - 1, n, n + 1, math.MaxInt} {
				r := NewReader(append(binary.BigEndian.AppendUint64(nil, uint64(n)), some(left)...))
				got := r.Count(most)
				if 0 <= n && n <= most && n <= left {
					if got != n || r.Err() != api.OK || r.Left() != left || !bytes.Equal(rest(r), some(left)) {
						t.Fatalf("Count %d, most %d, %d behind: %d, Err %d, Left %d", n, most, left, got, r.Err(), r.Left())
					}
					continue
				}
				if got != 0 {
					t.Fatalf("Count %d, most %d, %d behind: %d, not none", n, most, left, got)
				}
				isBad(t, "Count", r, api.ErrWire)
			}
		}
	}
	for n := range 8 {
		r := NewReader(make([]byte, n))
		if r.Count(9) != 0 {
			t.Fatalf("Count of %d bytes: some", n)
		}
		isBad(t, "Count", r, api.ErrWire)
	}
}

// rest takes all that is left.
func rest(r *Reader) []byte {
	var b []byte
	for r.Left() > 0 {
		b = append(b, r.Byte())
	}
	return b
}

// TestP4_3CountInBetween holds that what is left is what is behind the number, not what is behind the beginning, or with the number.
func TestP4_3CountInBetween(t *testing.T) {
	form := must(t, NewWriter().Text("abcdefgh").Int(3).Byte(1).Byte(2).Byte(3))
	r := NewReader(form)
	if r.Text() != "abcdefgh" || r.Count(3) != 3 || r.Left() != 3 || r.Byte() != 1 || r.Left() != 2 || r.Byte() != 2 || r.Byte() != 3 || r.Left() != 0 || r.End() != api.OK {
		t.Errorf("3 of 3: Err %d, Left %d", r.Err(), r.Left())
	}
	r = NewReader(form[:len(form)-1])
	if r.Text() != "abcdefgh" || r.Count(3) != 0 {
		t.Errorf("3 of 2: some")
	}
	isBad(t, "Count 3 of 2", r, api.ErrWire)
}

func TestP4_3Left(t *testing.T) {
	for _, n := range []int{0, 1, 9, 1000, api.MaxBytes} {
		if r := NewReader(make([]byte, n)); r.Left() != n || r.Left() != n {
			t.Errorf("%d bytes: Left %d", n, r.Left())
		}
	}
	if r := NewReader(make([]byte, 9)[:3]); r.Left() != 3 {
		t.Errorf("3 bytes with room behind: Left %d", r.Left())
	}
	for name := range calls() {
		r := NewReader(bytes.Repeat([]byte{0xff}, 30)) // enough for what is no field, of some, of others not even that
		calls()[name](r)
		if r.Err() != api.OK && r.Left() != 0 {
			t.Errorf("%s, bad: Left %d", name, r.Left())
		}
	}
}

// TestP4_4End holds that bytes that are left are told by End alone, and that this makes no reader bad.
func TestP4_4End(t *testing.T) {
	r := NewReader([]byte{1, 2, 1})
	for i, x := range []byte{1, 2, 1} {
		for range 2 {
			if r.End() != api.ErrWire || r.Err() != api.OK || r.Left() != 3-i {
				t.Fatalf("%d taken: End %d, Err %d, Left %d", i, r.End(), r.Err(), r.Left())
			}
		}
		if r.Byte() != x {
			t.Fatalf("%d taken: not the next byte", i)
		}
	}
	for range 2 {
		if r.End() != api.OK || r.Err() != api.OK {
			t.Fatalf("all taken: End %d, Err %d", r.End(), r.Err())
		}
	}
	if r.Flag() || r.End() != api.ErrWire || r.Err() != api.ErrWire {
		t.Fatalf("one taken that isn't there: End %d, Err %d", r.End(), r.Err())
	}
	if r := NewReader(nil); r.End() != api.OK || r.Err() != api.OK {
		t.Errorf("of no bytes: End %d, Err %d", r.End(), r.Err())
	}
}

// chance tells fields by chance.
func chance(r *rand.Rand) []field {
	var l []field
	for range r.Intn(30) {
		b := some(r.Intn(80))
		l = append(l, []field{aByte(byte(r.Int())), anInt(int(r.Uint64())), anInt(r.Intn(5)), aFlag(r.Intn(2) == 0), someBytes(b), aText(string(b)), aTag(api.Tag(some(32 + r.Intn(9))[:32]))}[r.Intn(7)])
	}
	return l
}

func TestP4_5ThereAndBack(t *testing.T) {
	c := rand.New(rand.NewSource(4))
	for range 3000 {
		l := chance(c)
		form, want := written(t, l)
		if !bytes.Equal(form, want) {
			t.Fatalf("%d fields: not their bytes", len(l))
		}
		r := NewReader(form)
		for i, f := range l {
			if !f.read(r) {
				t.Fatalf("%d of %d, %s: not as it was", i, len(l), f.name)
			}
		}
		if r.Left() != 0 || r.End() != api.OK {
			t.Fatalf("%d fields: Left %d, End %d", len(l), r.Left(), r.End())
		}
	}
}

// TestP4_5Longest holds it of a form that has as many bytes as it may.
func TestP4_5Longest(t *testing.T) {
	b := some(api.MaxBytes - 4)
	if r := NewReader(must(t, NewWriter().Bytes(b))); !bytes.Equal(r.Bytes(), b) || r.End() != api.OK {
		t.Errorf("Bytes: End %d", r.End())
	}
	if r := NewReader(must(t, NewWriter().Text(string(b)))); r.Text() != string(b) || r.End() != api.OK {
		t.Errorf("Text: End %d", r.End())
	}
}

// copied takes a field of that kind, and writes what it is told; a count as the number that it is.
func copied(kind int, r *Reader, w *Writer) {
	switch kind {
	case 0:
		w.Byte(r.Byte())
	case 1:
		w.Int(r.Int())
	case 2:
		w.Flag(r.Flag())
	case 3:
		w.Bytes(r.Bytes())
	case 4:
		w.Text(r.Text())
	case 5:
		w.Tag(r.Tag())
	default:
		w.Int(r.Count(math.MaxInt))
	}
}

// TestP4_6OneForm holds, of any bytes, in whatever way they are read, that either they are bad, or the same bytes are written again.
func TestP4_6OneForm(t *testing.T) {
	c := rand.New(rand.NewSource(6))
	ended := 0
	for i := range 300000 {
		b := make([]byte, c.Intn(14))
		for j := range b {
			b[j] = byte(c.Intn(2) * c.Intn(3)) // mostly small, so that flags, lengths and counts are there at times
		}
		if i%9 == 0 {
			b = some(i % 100)
		}
		r, w := NewReader(b), NewWriter()
		for r.Err() == api.OK && r.Left() > 0 {
			copied(c.Intn(7), r, w)
			if taken := b[:len(b)-r.Left()]; r.Err() == api.OK && !bytes.Equal(must(t, w), taken) {
				t.Fatalf("%v: read up to here, and written as %v", taken, must(t, w))
			}
		}
		if r.End() == api.OK {
			ended++
			if !bytes.Equal(must(t, w), b) {
				t.Fatalf("%v: read to its end, and written as %v", b, must(t, w))
			}
		}
	}
	if ended < 30000 {
		t.Errorf("only %d were read to their end", ended)
	}
}
