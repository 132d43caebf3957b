package link

import (
	"bytes"
	"fmt"
	"math"
	"math/rand"
	"sync"
	"testing"

	"seneschal/api"
)

// TestP0_1NobodyMade holds what each call tells of ends that are nil, or that nobody made, and that no call makes them such.
func TestP0_1NobodyMade(t *testing.T) {
	var zero Ends
	good, _ := New(nil, 1, 0).Send(0, 1, nil) // zero ends would be 0, of no root
	for name, x := range map[string]*Ends{"nil": nil, "new(Ends)": new(Ends), "&Ends{}": {}, "a variable": &zero} {
		for range 2 {
			for _, to := range edges() {
				for _, epoch := range few() {
					for _, body := range [][]byte{nil, []byte("b"), make([]byte, space+1)} {
						if b, e := x.Send(to, epoch, body); e != none || b != nil {
							t.Fatalf("%s: Send to %d in %d: error %d, %x", name, to, epoch, e, b)
						}
					}
				}
			}
			for _, b := range [][]byte{nil, {}, []byte("x"), good, good[1:], laid(api.Packet{From: 1, Epoch: 1, Seqn: 1}), laid(sealed(nil, api.Packet{From: 0, To: 1, Epoch: 1, Seqn: 1}))} {
				if p, e := x.Get(b); e != none || !same(p, api.Packet{}) || p.Body != nil {
					t.Fatalf("%s: Get of %x: error %d, %v", name, b, e, p)
				}
			}
			if x.Boot() != 0 {
				t.Fatalf("%s: boot %d", name, x.Boot())
			}
		}
	}
	if _, e := New(nil, 0, 0).Get(good); e != 0 {
		t.Errorf("error %d", e)
	}
}

// TestP0_1NoPanic holds that each call ends and does not panic, whatever it is handed.
func TestP0_1NoPanic(t *testing.T) {
	c := rand.New(rand.NewSource(1))
	n := edges()
	some := func() int { return n[c.Intn(len(n))] }
	for range 3000 {
		r := roots()[c.Intn(len(roots()))]
		p := api.Packet{From: some(), To: some(), Epoch: some(), Boot: some(), Seqn: some(), Body: junk(c, c.Intn(50)), Tag: api.Tag(junk(c, 32))}
		May(p)
		isSealed(t, r, p)
		isPrinted(t, p)
		isParsed(t, junk(c, c.Intn(300)))
		x, m := New(r, p.From, p.Boot), newModel(r, p.From, p.Boot)
		sends(t, x, m, p.To, p.Epoch, p.Body)
		gets(t, x, m, junk(c, c.Intn(300)))
		gets(t, x, m, laid(p))
		gets(t, x, m, laid(sealed(r, p)))
	}
	x, m := New(root, 1, 0), newModel(root, 1, 0)
	for _, b := range [][]byte{nil, {}, make([]byte, most), make([]byte, most+1), bytes.Repeat([]byte{255}, most), bytes.Repeat([]byte{127}, 200), make([]byte, 1<<22)} {
		isParsed(t, b)
		gets(t, x, m, b)
		sends(t, x, m, 2, 1, b)
	}
}

// TestP0_2FirstError holds which error is told where several apply.
func TestP0_2FirstError(t *testing.T) {
	huge := make([]byte, most+1)
	for _, to := range []int{-1, 1, 5, 7, 10} {
		if b, e := (*Ends)(nil).Send(to, 0, huge); e != none || b != nil {
			t.Errorf("nil: error %d", e)
		}
		if b, e := New(root, 1, 0).Send(to, 1, huge); e != wrong || b != nil {
			t.Errorf("to %d: error %d", to, e)
		}
		if b, e := Print(api.Packet{From: 1, To: to, Epoch: 1, Seqn: 1, Body: huge}); e != wrong || b != nil {
			t.Errorf("to %d: error %d", to, e)
		}
	}
	if p, e := new(Ends).Get(huge); e != none || p.Body != nil {
		t.Errorf("nobody's: error %d", e)
	}
	x, m := New(root, 1, 0), newModel(root, 1, 0)
	p := sealed(root, api.Packet{From: 0, To: 1, Epoch: 1, Seqn: 1})
	gets(t, x, m, laid(p))
	p.Tag[31]++
	if e := gets(t, x, m, laid(p)); e != notTag {
		t.Errorf("a tag that isn't right, of a number that came: error %d", e)
	}
	p.To = 2
	if e := gets(t, x, m, laid(p)); e != notLink {
		t.Errorf("likewise, for another one: error %d", e)
	}
}

// TestP0_3Refused holds that what is refused changes nothing that a later call could tell.
func TestP0_3Refused(t *testing.T) {
	x, y := New(root, 0, 4), New(root, 1, 0)
	m, n := newModel(root, 0, 4), newModel(root, 1, 0)
	refuse := func() {
		for _, to := range []int{0, 5, -1, 7, 10} {
			x.Send(to, 1, nil)
		}
		x.Send(1, 0, nil)
		x.Send(1, -1, nil)
		x.Send(1, 1, make([]byte, space+1))
		x.Send(1, 2, make([]byte, most+1))
		x.Send(2, 1, make([]byte, space+1))
		far := sealed(root, api.Packet{From: 0, To: 1, Epoch: 1, Boot: 4, Seqn: 1 << 30})
		for i, p := range append(changes(far), sealed([]byte("other"), far), sealed(root, api.Packet{From: 0, To: 2, Epoch: 1, Boot: 9, Seqn: 1}), sealed(root, api.Packet{From: 0, To: 1, Epoch: 1, Boot: 3, Seqn: 1 << 30})) {
			if _, e := y.Get(laid(p)); e == 0 {
				t.Fatalf("%d: %v is got", i, p)
			}
		}
		y.Get(nil)
		y.Get(laid(far)[1:])
	}
	gets(t, y, n, sends(t, x, m, 1, 1, nil))
	for range 5 {
		refuse()
		held := sends(t, x, m, 1, 1, []byte("held"))
		for range 3 {
			refuse()
			sends(t, x, m, 2, 1, nil)
			sends(t, x, m, 1, 2, nil)
			gets(t, y, n, sends(t, x, m, 1, 1, []byte("b")))
		}
		refuse()
		if e := gets(t, y, n, held); e != 0 {
			t.Fatalf("error %d", e)
		}
		if e := gets(t, y, n, held); e != already {
			t.Fatalf("error %d", e)
		}
	}
}

// TestP0_4NotChanged holds that bytes that are handed in are not changed, the room behind them neither.
func TestP0_4NotChanged(t *testing.T) {
	r, wholeRoot := roomy(root)
	body, wholeBody := roomy([]byte("the body"))
	p := sealed(root, api.Packet{From: 0, To: 1, Epoch: 1, Seqn: 1, Body: body})
	b, wholeBytes := roomy(laid(p))
	heldRoot, heldBody, heldBytes := bytes.Clone(wholeRoot), bytes.Clone(wholeBody), bytes.Clone(wholeBytes)
	holds := func(name string) {
		t.Helper()
		if !bytes.Equal(wholeRoot, heldRoot) || !bytes.Equal(wholeBody, heldBody) || !bytes.Equal(wholeBytes, heldBytes) {
			t.Fatal(name)
		}
	}
	May(p)
	holds("May")
	Seal(r, p)
	holds("Seal")
	Right(r, p)
	holds("Right")
	Print(p)
	holds("Print")
	Parse(b)
	holds("Parse")
	Parse(b[:50])
	holds("Parse of others")
	x, y := New(r, 0, 0), New(r, 1, 0)
	holds("New")
	x.Send(1, 1, body)
	x.Send(0, 1, body)
	holds("Send")
	for range 2 {
		y.Get(b)
		x.Get(b)
		y.Get(b[:50])
	}
	holds("Get")
}

// TestP0_4NotKept holds that writing over what was handed in changes no answer, then nor later.
func TestP0_4NotKept(t *testing.T) {
	r, _ := roomy(root)
	x, y := New(r, 0, 0), New(r, 1, 0)
	m, n := newModel(root, 0, 0), newModel(root, 1, 0)
	spoil(r)
	for i := range 3 {
		body, _ := roomy([]byte{1, 2, byte(i)})
		b, e := x.Send(1, 1, body)
		spoil(body)
		want, _ := m.send(1, 1, []byte{1, 2, byte(i)})
		if e != 0 || !bytes.Equal(b, want) {
			t.Fatalf("error %d, %x", e, b)
		}
		b, _ = roomy(b)
		p, e := y.Get(b)
		spoil(b)
		if q, _ := n.get(want); e != 0 || !same(p, q) {
			t.Fatalf("error %d, %v", e, p)
		}
		b, _ = roomy(want)
		q, e := Parse(b)
		if spoil(b); e != 0 || !same(p, q) {
			t.Fatalf("error %d, %v", e, q)
		}
	}
	body, _ := roomy([]byte("body"))
	p := api.Packet{From: 0, To: 1, Epoch: 1, Seqn: 1, Body: body}
	q := Seal(root, p)
	b, _ := Print(p)
	want, print := sealed(root, p), laid(p)
	want.Body = []byte("body")
	if spoil(body); !same(q, want) || !bytes.Equal(b, print) {
		t.Errorf("%v, %x", q, b)
	}
}

// TestP0_4NotShared holds that what is answered is new memory, the room behind it too: writing over one answer changes no other one, and nothing that is handed in.
func TestP0_4NotShared(t *testing.T) {
	body, wholeBody := roomy([]byte("body"))
	p := sealed(root, api.Packet{From: 0, To: 1, Epoch: 1, Seqn: 1, Body: body})
	in, wholeIn := roomy(laid(p))
	heldBody, heldIn := bytes.Clone(wholeBody), bytes.Clone(wholeIn)
	x, y := New(root, 0, 0), New(root, 1, 0)
	m, n := newModel(root, 0, 0), newModel(root, 1, 0)
	for range 5 {
		s, u := Seal(root, p), Seal(root, p)
		a, _ := Print(p)
		b, _ := Print(p)
		q, _ := Parse(in)
		o, _ := Parse(in)
		for _, l := range [][]byte{s.Body, a, q.Body} {
			spoil(l)
		}
		if !same(u, p) || !bytes.Equal(b, in) || !same(o, p) || !bytes.Equal(wholeBody, heldBody) || !bytes.Equal(wholeIn, heldIn) {
			t.Fatalf("%v, %x, %v, %x, %x", u, b, o, wholeBody, wholeIn)
		}
		sent, e := x.Send(1, 1, body)
		want, _ := m.send(1, 1, body)
		if e != 0 || !bytes.Equal(sent, want) {
			t.Fatalf("error %d, %x", e, sent)
		}
		got, e := y.Get(sent)
		if is, _ := n.get(want); e != 0 || !same(got, is) {
			t.Fatalf("error %d, %v", e, got)
		}
		spoil(got.Body)
		if !bytes.Equal(sent, want) {
			t.Fatalf("%x, not %x", sent, want)
		}
		spoil(sent)
		if !bytes.Equal(wholeBody, heldBody) || string(root) != "the root" {
			t.Fatalf("%x, %s", wholeBody, root)
		}
	}
}

// TestP0_4NilIsEmpty holds that a body, a root, bytes that are nil are as such that are empty.
func TestP0_4NilIsEmpty(t *testing.T) {
	p := api.Packet{From: 0, To: 1, Epoch: 1, Seqn: 1}
	q := p
	q.Body = []byte{}
	if s, u := Seal(nil, p), Seal([]byte{}, q); s.Tag != u.Tag || len(s.Body)+len(u.Body) > 0 || !Right([]byte{}, s) || !Right(nil, u) {
		t.Error("Seal, Right")
	}
	a, e := Print(p)
	b, f := Print(q)
	if e != 0 || f != 0 || !bytes.Equal(a, b) || May(p) != May(q) {
		t.Errorf("Print: errors %d, %d", e, f)
	}
	if r, e := Parse(a); e != 0 || len(r.Body) > 0 {
		t.Errorf("Parse: error %d", e)
	}
	for _, b := range [][]byte{nil, {}} {
		if _, e := Parse(b); e != notLink {
			t.Errorf("Parse: error %d", e)
		}
		if _, e := New(nil, 0, 0).Get(b); e != notLink {
			t.Errorf("Get: error %d", e)
		}
	}
	x, y := New(nil, 0, 0), New([]byte{}, 0, 0)
	a, e = x.Send(1, 1, nil)
	b, f = y.Send(1, 1, []byte{})
	if e != 0 || f != 0 || !bytes.Equal(a, b) {
		t.Errorf("Send: errors %d, %d", e, f)
	}
}

// TestP0_4Apart holds that ends have nothing of one another, also those of one and the same.
func TestP0_4Apart(t *testing.T) {
	x, y := New(root, 0, 0), New(root, 0, 0)
	if x == nil || x == y {
		t.Fatal("New: the same one, or none")
	}
	m, n := newModel(root, 0, 0), newModel(root, 0, 0)
	for range 3 {
		sends(t, x, m, 1, 1, nil)
	}
	sends(t, y, n, 1, 1, nil)
	sends(t, x, m, 1, 1, nil)
	b := laid(sealed(root, api.Packet{From: 1, To: 0, Epoch: 1, Seqn: 1}))
	gets(t, x, m, b)
	if e := gets(t, x, m, b); e != already {
		t.Errorf("error %d", e)
	}
	if e := gets(t, y, n, b); e != 0 {
		t.Errorf("error %d", e)
	}
	sends(t, y, n, 1, 1, nil)
}

// TestP0_4SentAndGot holds that what is got from one says nothing of what is sent to it, nor the other way.
func TestP0_4SentAndGot(t *testing.T) {
	x, m := New(root, 0, 0), newModel(root, 0, 0)
	for i := range 200 {
		for _, o := range []int{1, 8} {
			if i%3 > 0 {
				sends(t, x, m, o, 1+i%2, nil)
			}
			if i%5 > 1 {
				gets(t, x, m, laid(sealed(root, api.Packet{From: o, To: 0, Epoch: 1 + i%2, Boot: i / 50, Seqn: 1 + i*7%90})))
			}
		}
	}
}

// TestP0_4AtOnce holds that ends that run at once don't meet in any memory, and that what hasn't ends may be asked by many.
func TestP0_4AtOnce(t *testing.T) {
	var all sync.WaitGroup
	p := sealed(root, api.Packet{From: 0, To: 1, Epoch: 1, Seqn: 1, Body: []byte("body")})
	b := laid(p)
	errs := make([]error, 8)
	for i := range errs {
		all.Go(func() {
			errs[i] = netted(rand.New(rand.NewSource(int64(1000+i))), 300)
			for range 100 {
				print, e := Print(p)
				q, f := Parse(b)
				if e != 0 || f != 0 || !bytes.Equal(print, b) || !same(p, q) || !Right(root, p) || !same(Seal(root, p), p) || !May(p) {
					errs[i] = fmt.Errorf("errors %d, %d, %x, %v", e, f, print, q)
				}
			}
		})
	}
	all.Wait()
	for i, err := range errs {
		if err != nil {
			t.Errorf("%d: %v", i, err)
		}
	}
}

// TestWaysMap holds that what is kept stands at its one and its epoch, once each, and that what is refused keeps nothing.
func TestWaysMap(t *testing.T) {
	x, m := New(root, 0, 0), newModel(root, 0, 0)
	for _, to := range edges() {
		for _, epoch := range edges() {
			sends(t, x, m, to, epoch, make([]byte, space+1))
			gets(t, x, m, laid(api.Packet{From: to, To: 0, Epoch: epoch, Seqn: 1}))
			gets(t, x, m, laid(sealed(root, api.Packet{From: to, To: 2, Epoch: epoch, Seqn: 1})))
		}
	}
	if len(x.links) != 0 {
		t.Fatalf("%d are kept", len(x.links))
	}
	sends(t, x, m, 1, 1, nil)
	sends(t, x, m, 1, 1, nil)
	sends(t, x, m, 1, 2, nil)
	gets(t, x, m, laid(sealed(root, api.Packet{From: 1, To: 0, Epoch: 1, Boot: 3, Seqn: 7})))
	gets(t, x, m, laid(sealed(root, api.Packet{From: 1, To: 0, Epoch: 1, Boot: 3, Seqn: 6})))
	gets(t, x, m, laid(sealed(root, api.Packet{From: 4, To: 0, Epoch: math.MaxInt, Seqn: 1})))
	if len(x.links) != 3 {
		t.Fatalf("%d are kept", len(x.links))
	}
	for at, want := range map[between][3]int{{1, 1}: {2, 3, 7}, {1, 2}: {1, 0, 0}, {4, math.MaxInt}: {0, 0, 1}} {
		k, ok := x.links[at]
		if !ok || k.sent != want[0] || k.came.Boot() != want[1] || k.came.Top() != want[2] {
			t.Errorf("%v: %v, %d, boot %d, top %d", at, ok, k.sent, k.came.Boot(), k.came.Top())
		}
	}
}
