package link

import (
	"bytes"
	"crypto/hmac"
	"crypto/sha256"
	"encoding/binary"
	"fmt"
	"math"
	"math/rand"
	"slices"
	"testing"

	"seneschal/api"
)

// The chapter's errors and numbers, written out.
const (
	none    api.Errno = 1
	wrong   api.Errno = 2
	long    api.Errno = 3
	notLink api.Errno = 190
	notTag  api.Errno = 91
	already api.Errno = 180

	most  = 65536             // bytes of a form
	ahead = 5*8 + 4           // bytes of a head ahead of its body
	room  = most - ahead      // bytes of the longest body that a head has
	space = most - ahead - 32 // bytes of the longest body that a packet has
	reach = 64                // numbers of a window
)

// everybody is who sends and gets packets.
var everybody = []int{0, 1, 2, 3, 4, 8, 9}

// mayBe tells whether a packet may be.
func mayBe(p api.Packet) bool {
	return slices.Contains(everybody, p.From) && slices.Contains(everybody, p.To) && p.From != p.To && p.Epoch > 0 && p.Boot > -1 && p.Seqn > 0
}

// keyed tells the HMAC.
func keyed(key, b []byte) []byte {
	h := hmac.New(sha256.New, key)
	h.Write(b)
	return h.Sum(nil)
}

// numbered puts numbers behind bytes.
func numbered(b []byte, l ...int) []byte {
	for _, n := range l {
		b = binary.BigEndian.AppendUint64(b, uint64(n))
	}
	return b
}

// headOf tells a packet's head, of whatever length.
func headOf(p api.Packet) []byte {
	b := numbered(nil, p.From, p.To, p.Epoch, p.Boot, p.Seqn)
	b = binary.BigEndian.AppendUint32(b, uint32(len(p.Body)))
	return append(b, p.Body...)
}

// tagOf tells a packet's right tag.
func tagOf(root []byte, p api.Packet) api.Tag {
	b := headOf(p)
	if len(b) > most {
		b = nil
	}
	return api.Tag(keyed(keyed(root, numbered([]byte("link\x00"), p.From, p.To, p.Epoch)), b))
}

// laid tells a packet's bytes, of whatever length, also of one that may not be.
func laid(p api.Packet) []byte { return append(headOf(p), p.Tag[:]...) }

// sealed tells the packet with its right tag.
func sealed(root []byte, p api.Packet) api.Packet {
	p.Tag = tagOf(root, p)
	return p
}

// read tells the packet whose bytes these are, if it may be.
func read(b []byte) (api.Packet, bool) {
	if len(b) < ahead+32 || len(b) > most {
		return api.Packet{}, false
	}
	at := func(i int) int { return int(binary.BigEndian.Uint64(b[8*i:])) }
	p := api.Packet{From: at(0), To: at(1), Epoch: at(2), Boot: at(3), Seqn: at(4), Body: b[ahead : len(b)-32], Tag: api.Tag(b[len(b)-32:])}
	return p, mayBe(p) && int(binary.BigEndian.Uint32(b[40:])) == len(p.Body)
}

// same tells whether packets are the same: a body that is nil is one that is empty.
func same(p, q api.Packet) bool {
	return bytes.Equal(laid(p), laid(q))
}

// model is ends as the chapter's words have them: it forgets nothing.
type model struct {
	root      []byte
	who, boot int
	sent      map[[2]int]int
	boots     map[[2]int]int
	came      map[[4]int]bool // sender, epoch, boot, number
}

// newModel tells ends of that one.
func newModel(root []byte, who, boot int) *model {
	return &model{root, who, boot, map[[2]int]int{}, map[[2]int]int{}, map[[4]int]bool{}}
}

// send tells what Send must.
func (m *model) send(to, epoch int, body []byte) ([]byte, api.Errno) {
	p := sealed(m.root, api.Packet{From: m.who, To: to, Epoch: epoch, Boot: m.boot, Seqn: m.sent[[2]int{to, epoch}] + 1, Body: body})
	switch b := laid(p); {
	case !mayBe(p):
		return nil, wrong
	case len(b) > most:
		return nil, long
	default:
		m.sent[[2]int{to, epoch}]++
		return b, api.OK
	}
}

// get tells what Get must.
func (m *model) get(b []byte) (api.Packet, api.Errno) {
	p, ok := read(b)
	if !ok || p.To != m.who {
		return api.Packet{}, notLink
	}
	if tagOf(m.root, p) != p.Tag {
		return api.Packet{}, notTag
	}
	l := [2]int{p.From, p.Epoch}
	boot, is := m.boots[l]
	top := 0
	for x := range m.came {
		if x[0] == p.From && x[1] == p.Epoch && x[2] == boot {
			top = max(top, x[3])
		}
	}
	x := [4]int{p.From, p.Epoch, p.Boot, p.Seqn}
	if is && (p.Boot < boot || m.came[x] || p.Boot == boot && top-p.Seqn >= reach) {
		return api.Packet{}, already
	}
	m.boots[l] = p.Boot
	m.came[x] = true
	return p, api.OK
}

// sends holds what Send tells, and tells the bytes.
func sends(t *testing.T, x *Ends, m *model, to, epoch int, body []byte) []byte {
	t.Helper()
	if err := sendsLike(x, m, to, epoch, body); err != nil {
		t.Fatal(err)
	}
	b, _ := m.send(to, epoch, body)
	return b
}

// sendsLike tells how Send is unlike what the model would tell, which stays as it is.
func sendsLike(x *Ends, m *model, to, epoch int, body []byte) error {
	held := m.sent[[2]int{to, epoch}]
	want, is := m.send(to, epoch, body)
	m.sent[[2]int{to, epoch}] = held
	if b, e := x.Send(to, epoch, body); e != is || !bytes.Equal(b, want) || (b == nil) != (e != api.OK) {
		return fmt.Errorf("%d sends %.40x to %d in epoch %d behind %d: error %d, %.300x; not %d, %.300x", m.who, body, to, epoch, held, e, b, is, want)
	}
	return nil
}

// gets holds what Get tells.
func gets(t *testing.T, x *Ends, m *model, b []byte) api.Errno {
	t.Helper()
	e, err := getsLike(x, m, b)
	if err != nil {
		t.Fatal(err)
	}
	return e
}

// getsLike tells the error, and how Get is unlike what the model tells.
func getsLike(x *Ends, m *model, b []byte) (api.Errno, error) {
	want, is := m.get(b)
	p, e := x.Get(b)
	if e != is || !same(p, want) || e != api.OK && p.Body != nil {
		return e, fmt.Errorf("%d gets %.300x: error %d, %v; not %d, %v", m.who, b, e, p, is, want)
	}
	return e, nil
}

// edges tells numbers at the edges of who may be, and of an int.
func edges() []int {
	return []int{math.MinInt, -1 << 32, math.MinInt32, -256, -9, -2, -1, 0, 1, 2, 3, 4, 5, 6, 7, 8, 9, 10, 11, 12, 255, 256, 257, 264, math.MaxInt32, math.MaxInt32 + 1, math.MaxUint32, 1 << 32, 1<<32 + 1, 1<<40 + 1, math.MaxInt - 1, math.MaxInt}
}

// few tells fewer of them.
func few() []int { return []int{math.MinInt, -1, 0, 1, 2, 64, 1 << 32, 1<<40 + 1, math.MaxInt} }

// roots tells roots of lengths at the edges of a key's block.
func roots() [][]byte {
	l := [][]byte{nil, []byte("root"), []byte("toor"), {0}, {0, 0}, []byte("root\x00"), []byte("link")}
	for _, n := range []int{31, 32, 33, 63, 64, 65, 128, 1000} {
		l = append(l, junk(rand.New(rand.NewSource(int64(n))), n))
	}
	return l
}

// junk tells so many bytes by chance.
func junk(c *rand.Rand, n int) []byte {
	b := make([]byte, n)
	c.Read(b)
	return b
}

// one tells a packet that may be, by chance.
func one(c *rand.Rand) api.Packet {
	number := func() int {
		if n := []int{1, 1, 2, 3, 63, 64, 65, 1 << 32, math.MaxInt - 1, math.MaxInt}[c.Intn(10)]; c.Intn(2) > 0 {
			return n
		}
		return 1 + c.Intn(1<<c.Intn(40))
	}
	o := c.Perm(len(everybody))
	return api.Packet{From: everybody[o[0]], To: everybody[o[1]], Epoch: number(), Boot: number() - 1, Seqn: number(), Body: junk(c, c.Intn(60)), Tag: api.Tag(junk(c, 32))}
}

// changes tells a packet with each of its fields otherwise.
func changes(p api.Packet) []api.Packet {
	var l []api.Packet
	change := func(do func(q *api.Packet)) {
		q := p
		q.Body = bytes.Clone(p.Body)
		if do(&q); !same(p, q) {
			l = append(l, q)
		}
	}
	for _, n := range append(edges(), p.From+1, p.To-1, p.Epoch+1, p.Epoch-1, p.Boot+1, p.Boot-1, p.Seqn+1, p.Seqn-1) {
		change(func(q *api.Packet) { q.From = n })
		change(func(q *api.Packet) { q.To = n })
		change(func(q *api.Packet) { q.Epoch = n })
		change(func(q *api.Packet) { q.Boot = n })
		change(func(q *api.Packet) { q.Seqn = n })
	}
	change(func(q *api.Packet) { q.From, q.To = p.To, p.From })
	change(func(q *api.Packet) { q.Epoch, q.Boot = p.Boot, p.Epoch })
	change(func(q *api.Packet) { q.Boot, q.Seqn = p.Seqn, p.Boot })
	change(func(q *api.Packet) { q.Body = nil })
	change(func(q *api.Packet) { q.Body = append(q.Body, 0) })
	change(func(q *api.Packet) { q.Body = append([]byte{0}, q.Body...) })
	change(func(q *api.Packet) { q.Body = append([]byte{0, 0, 0, byte(len(p.Body))}, q.Body...) })
	for i := range p.Body {
		change(func(q *api.Packet) { q.Body[i] ^= 1 })
		change(func(q *api.Packet) { q.Body[i] ^= 128 })
		change(func(q *api.Packet) { q.Body = append(q.Body[:i], q.Body[i+1:]...) })
	}
	for i := range p.Tag {
		change(func(q *api.Packet) { q.Tag[i] ^= 1 })
		change(func(q *api.Packet) { q.Tag[i] ^= 128 })
	}
	change(func(q *api.Packet) { q.Tag = api.Tag{} })
	return l
}

// pairs tells all who are unlike, in both orders.
func pairs() [][2]int {
	var l [][2]int
	for _, a := range everybody {
		for _, b := range everybody {
			if a != b {
				l = append(l, [2]int{a, b})
			}
		}
	}
	return l
}

// spoil writes over bytes and all the room behind them.
func spoil(b []byte) {
	b = b[:cap(b)]
	for i := range b {
		b[i] = ^b[i]
	}
}

// roomy tells bytes with room behind them, and what both are together.
func roomy(b []byte) (list, whole []byte) {
	whole = append(append(make([]byte, 0, len(b)+100), b...), bytes.Repeat([]byte{7}, 100)...)
	return whole[:len(b)], whole
}
