package frame

import (
	"bytes"
	"crypto/sha256"
	"encoding/binary"
	"encoding/hex"
	"math"
	"math/rand"
	"slices"
	"testing"

	"seneschal/api"
)

// some tells bytes that are hardly ever the same at two places.
func some(n int) []byte {
	b := make([]byte, n)
	rand.New(rand.NewSource(int64(n))).Read(b)
	return b
}

// sealed puts a seal behind bytes, as another program works it out.
func sealed(ahead []byte) []byte {
	t := sha256.Sum256(ahead)
	return slices.Concat(ahead, t[:8])
}

// framed tells a payload's frame, as another program works it out; also of a payload that is too long to have one.
func framed(payload []byte) []byte {
	return sealed(append(binary.BigEndian.AppendUint32(nil, uint32(len(payload))), payload...))
}

// sizes tells how long payloads may be: around 0, where a seal's bytes fill a block, where the length's next byte counts, and up to the most.
func sizes() []int {
	return []int{0, 1, 2, 3, 4, 7, 8, 9, 11, 12, 13, 50, 51, 52, 59, 60, 61, 115, 116, 127, 128, 255, 256, 257, 1000, 65279, 65280, 65535, api.MaxBytes - 1, api.MaxBytes}
}

// must tells the frame of a payload that has one.
func must(t *testing.T, payload []byte) []byte {
	t.Helper()
	f, e := Seal(payload)
	if e != api.OK {
		t.Fatalf("Seal of %d bytes: error %d", len(payload), e)
	}
	return f
}

// isFrame holds that b begins with the frame of that payload.
func isFrame(t *testing.T, name string, b, payload []byte) {
	t.Helper()
	if p, used, e := Next(b); e != api.OK || used != len(payload)+12 || !bytes.Equal(p, payload) {
		t.Fatalf("%s: Next: %d bytes, used %d, error %d; not %d bytes", name, len(p), used, e, len(payload))
	}
}

// isNone holds that b begins with no frame.
func isNone(t *testing.T, name string, b []byte) {
	t.Helper()
	if p, used, e := Next(b); e != api.ErrFrame || used != 0 || p != nil {
		t.Fatalf("%s: Next: %d bytes, used %d, error %d; not ErrFrame alone", name, len(p), used, e)
	}
	if l, used := All(b); len(l) != 0 || used != 0 {
		t.Fatalf("%s: All: %d payloads, used %d; not none", name, len(l), used)
	}
}

// areFrames holds that b begins with the frames of just these payloads.
func areFrames(t *testing.T, name string, b []byte, payloads [][]byte) {
	t.Helper()
	want := 0
	for _, p := range payloads {
		want += len(p) + 12
	}
	if l, used := All(b); used != want || !slices.EqualFunc(l, payloads, bytes.Equal) {
		t.Fatalf("%s: All: %d payloads, used %d; not %d, %d", name, len(l), used, len(payloads), want)
	}
}

// known tells frames whose seals were worked out by hand (by sha256sum).
func known() []struct{ payload, frame string } {
	return []struct{ payload, frame string }{
		{"", "00000000" + "df3f619804a92fdb"},
		{"a", "00000001" + "61" + "72ff6b02949dad95"},
		{"abc", "00000003" + "616263" + "d04b72a650ce0f8c"},
		{"\x00\xff", "00000002" + "00ff" + "1c6e22daf446d957"},
	}
}

func TestP5_1Examples(t *testing.T) {
	for _, c := range known() {
		if got := hex.EncodeToString(must(t, []byte(c.payload))); got != c.frame {
			t.Errorf("%q: %s, not %s", c.payload, got, c.frame)
		}
	}
	f := must(t, []byte("a"))
	if len(f) != 13 || !bytes.Equal(f[:5], []byte{0, 0, 0, 1, 97}) {
		t.Errorf("`a`: %v", f)
	}
	if f := must(t, make([]byte, api.MaxBytes)); hex.EncodeToString(f[:5])+hex.EncodeToString(f[len(f)-8:]) != "0001000000"+"fa25019d0e50b3d6" {
		t.Errorf("MaxBytes noughts: %x .. %x", f[:5], f[len(f)-8:])
	}
}

func TestP5_1EachLength(t *testing.T) {
	for n := range 600 {
		for _, b := range [][]byte{some(n), make([]byte, n), bytes.Repeat([]byte{0xff}, n)} {
			if got := must(t, b); !bytes.Equal(got, framed(b)) {
				t.Fatalf("%d bytes: not the frame", n)
			}
		}
	}
	for _, n := range sizes() {
		if got := must(t, some(n)); !bytes.Equal(got, framed(some(n))) {
			t.Fatalf("%d bytes: not the frame", n)
		}
	}
	if got := must(t, some(9)[:3]); !bytes.Equal(got, framed(some(9)[:3])) {
		t.Errorf("the room behind a payload counts: %v", got)
	}
	if got, want := must(t, must(t, some(5))), framed(framed(some(5))); !bytes.Equal(got, want) {
		t.Errorf("the frame of a frame: %v, not %v", got, want)
	}
}

func TestP5_1Long(t *testing.T) {
	for _, n := range []int{api.MaxBytes + 1, api.MaxBytes + 2, api.MaxBytes + 12, 2 * api.MaxBytes, 1<<24 + 5} {
		if f, e := Seal(make([]byte, n)); e != api.ErrLong || f != nil {
			t.Errorf("%d bytes: %d bytes, error %d", n, len(f), e)
		}
	}
	for n := api.MaxBytes - 13; n <= api.MaxBytes; n++ { // the payload's bytes count, not the frame's
		if f, e := Seal(make([]byte, n)); e != api.OK || len(f) != n+12 {
			t.Errorf("%d bytes: %d bytes, error %d", n, len(f), e)
		}
	}
}

func TestP5_2Examples(t *testing.T) {
	f := must(t, []byte("a"))
	isFrame(t, "`a`", f, []byte("a"))
	isFrame(t, "`a`, and 9", append(bytes.Clone(f), 9), []byte("a"))
	isNone(t, "its first 12 bytes", f[:12])
	isNone(t, "none", nil)
	isNone(t, "13 noughts", make([]byte, 13))
	for _, c := range known() {
		b, err := hex.DecodeString(c.frame)
		if err != nil {
			t.Fatal(err)
		}
		isFrame(t, c.frame, b, []byte(c.payload))
	}
}

func TestP5_2EachLength(t *testing.T) {
	for _, n := range sizes() {
		for _, behind := range [][]byte{nil, {0}, {9}, make([]byte, 12), some(100), framed(some(3)), make([]byte, api.MaxBytes+1)} {
			isFrame(t, "a frame", append(framed(some(n)), behind...), some(n))
		}
	}
	for n := range 300 {
		isFrame(t, "a frame of noughts", framed(make([]byte, n)), make([]byte, n))
	}
}

// TestP5_2TooLong holds that a length above MaxBytes is none's, though all else of it is right.
func TestP5_2TooLong(t *testing.T) {
	for _, n := range []int{api.MaxBytes + 1, api.MaxBytes + 2, api.MaxBytes + 255, 2 * api.MaxBytes, 1 << 24} {
		isNone(t, "one too long", framed(some(n)))
		isNone(t, "one too long, and more", append(framed(some(n)), framed(some(1))...))
	}
}

// TestP5_2Lengths holds that no length brings what isn't there, nor what is behind or ahead of it.
func TestP5_2Lengths(t *testing.T) {
	lengths := []uint32{0, 1, 2, 7, 8, 12, 99, 100, 101, 108, 112, 255, 256, 65535, 65536, 65537, 1 << 17, 1 << 24, math.MaxInt32 - 12, math.MaxInt32, math.MaxInt32 + 1, math.MaxUint32 - 12, math.MaxUint32 - 11, math.MaxUint32 - 7, math.MaxUint32 - 3, math.MaxUint32}
	for _, n := range lengths {
		for _, there := range []int{0, 1, 7, 8, 9, 11, 12, 99, 100, 101, 108, 112, 65536, 70000} {
			b := sealed(append(binary.BigEndian.AppendUint32(nil, n), some(there)...))
			if int64(n) == int64(there) && there <= api.MaxBytes {
				isFrame(t, "as long as it says", b, some(there))
			} else {
				isNone(t, "not as long as it says", b)
			}
		}
	}
}

// TestP5_2FewBytes holds that bytes which are too few for a frame are none's, also where the room behind them holds the others.
func TestP5_2FewBytes(t *testing.T) {
	for n := range 12 {
		isNone(t, "noughts", make([]byte, n))
		isNone(t, "0xff", bytes.Repeat([]byte{0xff}, n))
		isNone(t, "a frame of no bytes, cut off", framed(nil)[:n])
		isNone(t, "a frame of no bytes, cut off, without room", slices.Clip(framed(nil)[:n]))
	}
	isFrame(t, "12 bytes", framed(nil), nil)
}

// TestP5_2OtherSeals holds that a seal is the first 8 bytes of the tag of the length and the payload, and of nothing else.
func TestP5_2OtherSeals(t *testing.T) {
	for _, n := range []int{0, 1, 9, 52, 100} {
		p := some(n)
		ahead := append(binary.BigEndian.AppendUint32(nil, uint32(n)), p...)
		tag, ofPayload, ofNothing := sha256.Sum256(ahead), sha256.Sum256(p), sha256.Sum256(nil)
		turned := bytes.Clone(tag[:8])
		slices.Reverse(turned)
		for name, seal := range map[string][]byte{
			"noughts": make([]byte, 8), "the tag's last 8 bytes": tag[24:], "its second 8 bytes": tag[8:16], "the first from the second byte on": tag[1:9],
			"of the payload alone": ofPayload[:8], "of nothing": ofNothing[:8], "turned round": turned, "only 7 bytes": tag[:7], "7 bytes and a nought": append(bytes.Clone(tag[:7]), tag[7]^1), "one too late": append([]byte{0}, tag[:8]...),
		} {
			isNone(t, name, slices.Concat(ahead, seal))
		}
		isFrame(t, "the whole tag", slices.Concat(ahead, tag[:]), p)
		little := append(binary.LittleEndian.AppendUint32(nil, uint32(n)), p...)
		if n > 0 {
			isNone(t, "a length with the least byte ahead", sealed(little))
		}
	}
}

// TestP5_2FirstAlone holds that a frame behind bytes that are none isn't looked for, nor what is behind the first one looked at.
func TestP5_2FirstAlone(t *testing.T) {
	f := framed(some(5))
	for n := 1; n < 30; n++ {
		isNone(t, "bytes ahead of a frame", append(some(n), f...))
		isFrame(t, "bytes behind a frame", append(bytes.Clone(f), some(n)...), some(5))
	}
	isFrame(t, "two frames", append(bytes.Clone(f), framed(some(6))...), some(5))
	isFrame(t, "a torn one behind it", append(bytes.Clone(f), framed(some(6))[:17]...), some(5))
}

func TestP5_3Examples(t *testing.T) {
	two := append(must(t, []byte("a")), must(t, []byte("bc"))...)
	areFrames(t, "two frames and 3 bytes more", append(two, 1, 2, 3), [][]byte{[]byte("a"), []byte("bc")})
	areFrames(t, "nothing", nil, nil)
	areFrames(t, "3 bytes", []byte{1, 2, 3}, nil)
	areFrames(t, "one frame", framed(nil), [][]byte{nil})
}

// lists tells lists of payloads: none, one, many, empty ones, the longest ones.
func lists() [][][]byte {
	l := [][][]byte{nil, {nil}, {nil, nil, nil}, {some(1), nil, some(2)}, {some(65536), some(65536)}, {some(3), some(65536), nil}, {framed(some(1)), framed(nil)}, {some(7), some(7)}}
	for n := range 12 {
		var payloads [][]byte
		for i := range n {
			payloads = append(payloads, some(11*i%60))
		}
		l = append(l, payloads)
	}
	return append(l, make([][]byte, 3000))
}

// together tells the frames of payloads, one behind the other.
func together(payloads [][]byte) []byte {
	var b []byte
	for _, p := range payloads {
		b = append(b, framed(p)...)
	}
	return b
}

// TestP5_3UpToNone holds that frames are told as far as there are, whatever it is that is none, and whatever stands behind that.
func TestP5_3UpToNone(t *testing.T) {
	otherwise := framed(some(20))
	otherwise[9] ^= 1
	for _, payloads := range lists() {
		b := together(payloads)
		for name, none := range map[string][]byte{
			"nothing": nil, "a nought": {0}, "noughts": make([]byte, 40), "0xff": bytes.Repeat([]byte{0xff}, 40), "a torn one": framed(some(20))[:31],
			"one otherwise": otherwise, "one too long": framed(some(api.MaxBytes + 1)), "one that goes past the end": {0, 0, 1, 0, 7, 7},
		} {
			areFrames(t, name, slices.Concat(b, none), payloads)
			if len(none) > 0 {
				areFrames(t, name+", and frames behind it", slices.Concat(b, none, framed(some(4)), framed(nil)), payloads)
			}
		}
	}
}

// TestP5_3AsNext holds, of bytes by chance, that All tells what Next tells again and again.
func TestP5_3AsNext(t *testing.T) {
	c := rand.New(rand.NewSource(3))
	for range 3000 {
		var b []byte
		for range c.Intn(6) {
			b = append(b, framed(some(c.Intn(20)))...)
		}
		b = append(b, some(c.Intn(20))...)
		if len(b) > 0 && c.Intn(2) == 0 {
			b[c.Intn(len(b))] ^= 1 << c.Intn(8)
		}
		var want [][]byte
		at := 0
		for p, used, e := Next(b); e == api.OK; p, used, e = Next(b[at:]) {
			want = append(want, p)
			at += used
		}
		if l, used := All(b); used != at || !slices.EqualFunc(l, want, bytes.Equal) {
			t.Fatalf("%v: All: %d payloads, used %d; Next: %d, %d", b, len(l), used, len(want), at)
		}
	}
}

func TestP5_4ThereAndBack(t *testing.T) {
	for _, n := range sizes() {
		f := must(t, some(n))
		for _, behind := range [][]byte{nil, {0}, some(40), f, f[:len(f)-1]} {
			isFrame(t, "there and back", slices.Concat(f, behind), some(n))
		}
	}
	for _, payloads := range lists() {
		var b []byte
		for _, p := range payloads {
			b = append(b, must(t, p)...)
		}
		areFrames(t, "there and back", b, payloads)
		if l, used := All(b); !bytes.Equal(together(l), b) || used != len(b) {
			t.Fatalf("%d payloads: their frames aren't the bytes that they come of", len(payloads))
		}
	}
}

func TestP5_4ByChance(t *testing.T) {
	c := rand.New(rand.NewSource(4))
	for range 500 {
		var payloads [][]byte
		var b []byte
		for range c.Intn(12) {
			p := make([]byte, c.Intn(200))
			c.Read(p)
			payloads = append(payloads, p)
			b = append(b, must(t, p)...)
		}
		areFrames(t, "by chance", b, payloads)
	}
}

// TestP5_5Torn holds that no beginning of a frame is a frame, however it is cut off, and with noughts for what is missing.
func TestP5_5Torn(t *testing.T) {
	for _, n := range []int{0, 1, 2, 8, 9, 60, 100, 300} {
		f := must(t, some(n))
		for cut := range f {
			isNone(t, "cut off", f[:cut])
			isNone(t, "cut off, without room", bytes.Clone(f[:cut]))
			if zeros := slices.Concat(f[:cut], make([]byte, len(f)-cut)); !bytes.Equal(zeros, f) {
				isNone(t, "cut off, noughts behind", zeros)
			}
		}
	}
	f := must(t, some(api.MaxBytes))
	for _, cut := range []int{4, 5, 60000, api.MaxBytes, api.MaxBytes + 3, api.MaxBytes + 4, api.MaxBytes + 5, api.MaxBytes + 11} {
		isNone(t, "the longest, cut off", f[:cut])
	}
}

// TestP5_5CutOffAnywhere holds that frames that are cut off tell those that are whole.
func TestP5_5CutOffAnywhere(t *testing.T) {
	for _, payloads := range [][][]byte{{nil, some(1), some(30), nil, some(12), some(255)}, {some(2), some(2), some(2)}, {some(40)}} {
		b := together(payloads)
		whole, end := 0, 0
		for cut := range len(b) + 1 {
			if whole < len(payloads) && cut == end+len(payloads[whole])+12 {
				end = cut
				whole++
			}
			areFrames(t, "cut off", b[:cut], payloads[:whole])
			areFrames(t, "cut off, without room", bytes.Clone(b[:cut]), payloads[:whole])
		}
		if whole != len(payloads) {
			t.Fatalf("only %d whole", whole)
		}
	}
}

// TestP5_5OneByteOtherwise holds it of each byte, and of all that it may be otherwise.
func TestP5_5OneByteOtherwise(t *testing.T) {
	for _, n := range []int{0, 1, 9, 60} {
		f := must(t, some(n))
		last := framed(some(5))
		for i := range f {
			for x := 1; x < 256; x++ {
				b := bytes.Clone(f)
				b[i] ^= byte(x)
				isNone(t, "one byte otherwise", b)
				areFrames(t, "in the midst", slices.Concat(last, b, last), [][]byte{some(5)})
			}
		}
	}
	f := must(t, some(api.MaxBytes))
	for _, i := range []int{0, 1, 2, 3, 4, 5, 30000, api.MaxBytes, api.MaxBytes + 3, api.MaxBytes + 4, api.MaxBytes + 11} {
		b := bytes.Clone(f)
		b[i] ^= 1
		isNone(t, "one byte of the longest otherwise", b)
	}
}
