package message

import (
	"bytes"
	"fmt"
	"math"
	"math/rand"
	"slices"
	"sync"
	"testing"

	"seneschal/api"
	"seneschal/wire"
)

// TestP0_1NobodyMade holds what is told with writers and readers that are nil, or that nobody made, and that no call makes them such.
func TestP0_1NobodyMade(t *testing.T) {
	e, c := api.Entry{Pos: 1, ID: 1, Body: []byte{2}}, api.Config{Epoch: 9, Members: membersOf(3)}
	for name, w := range map[string]*wire.Writer{"nil": nil, "new": new(wire.Writer)} {
		for range 2 {
			if PutEntry(w, e) != w || PutConfig(w, c) != w || PutEntry(w, api.Entry{}) != w || PutConfig(w, api.Config{}) != w {
				t.Errorf("%s: another writer", name)
			}
			if b, err := w.Done(); err != 1 || b != nil {
				t.Errorf("%s: %v, error %d", name, b, err)
			}
		}
	}
	for name, r := range map[string]*wire.Reader{"nil": nil, "new": new(wire.Reader)} {
		for range 2 {
			if e := TakeEntry(r); !sameEntry(e, api.Entry{}) || e.Body != nil {
				t.Errorf("%s: %v", name, e)
			}
			if c := TakeConfig(r); !sameConfig(c, api.Config{}) || c.Members != nil {
				t.Errorf("%s: %v", name, c)
			}
			if r.Err() != 1 || r.End() != 1 {
				t.Errorf("%s: error %d", name, r.Err())
			}
		}
	}
}

// TestP0_1NoPanic holds that each call ends and does not panic, whatever it is handed.
func TestP0_1NoPanic(t *testing.T) {
	c := rand.New(rand.NewSource(1))
	n := edges()
	some := func() int { return n[c.Intn(len(n))] }
	for range 20000 {
		m := api.Message{
			Kind: uint8(c.Intn(9)), Client: some(), ID: some(), Body: junk(c, 40), Upto: some(), From: some(),
			Entries: make([]api.Entry, c.Intn(7)), Have: some(), Done: some(), Config: api.Config{Epoch: some(), Members: make([]api.Member, c.Intn(8))}, Since: some(),
		}
		for i := range m.Entries {
			m.Entries[i] = api.Entry{Pos: some(), Stamp: some(), Client: some(), ID: some(), Body: junk(c, 40)}
		}
		for i := range m.Config.Members {
			m.Config.Members[i] = api.Member{Node: some(), Since: some(), Whole: c.Intn(2) > 0}
		}
		prints(t, m)
		parses(t, formOf(m))
		for _, e := range m.Entries {
			if MayEntry(e) != entryMay(e) {
				t.Fatalf("%v: %v", e, MayEntry(e))
			}
			takesEntry(t, entryForm(e))
		}
		if MayConfig(m.Config) != configMay(m.Config) {
			t.Fatalf("%v: %v", m.Config, MayConfig(m.Config))
		}
		takesConfig(t, configForm(m.Config))
		b := junk(c, 100)
		parses(t, b)
		takesEntry(t, b)
		takesConfig(t, b)
	}
	huge := api.Message{Body: make([]byte, 1<<22), Entries: make([]api.Entry, 1<<18), Config: api.Config{Epoch: 1, Members: make([]api.Member, 1<<18)}}
	for k := range 8 {
		huge.Kind = uint8(k)
		if b, e := Print(huge); May(huge) || e != wrong || b != nil {
			t.Errorf("kind %d: error %d", k, e)
		}
	}
	for _, b := range [][]byte{nil, {}, bytes.Repeat([]byte{255}, most), bytes.Repeat([]byte{2}, most+1), make([]byte, 1<<22), bytes.Repeat([]byte{127}, 200)} {
		parses(t, b)
	}
}

// TestP0_2FirstError holds that beside an error, and of a reader that is bad, all else is zero.
func TestP0_2FirstError(t *testing.T) {
	for _, m := range append(examples(), api.Message{}) {
		b := formOf(m)
		for _, l := range [][]byte{append(b, 0), b[:len(b)-1]} {
			x, e := Parse(l)
			if e != notOne || !same(x, api.Message{}) || x.Body != nil || x.Entries != nil || x.Config.Members != nil {
				t.Errorf("%v: %v, error %d", l, x, e)
			}
		}
		m.Kind = 7
		if b, e := Print(m); e != wrong || b != nil {
			t.Errorf("%v: %v, error %d", m, b, e)
		}
	}
	// a form of a message that may not be, but is read to its end
	for _, m := range []api.Message{{Kind: api.MRequest, Client: 4, ID: 1, Body: []byte{1}}, {Kind: api.MAppend, From: 1, Entries: []api.Entry{{Pos: 1, ID: 1, Body: []byte{1}}, {Pos: 2, Body: []byte{1}}}}, {Kind: api.MConfig, Config: api.Config{Epoch: 1, Members: make([]api.Member, 2)}}} {
		if x, e := Parse(formOf(m)); e != notOne || !same(x, api.Message{}) || x.Body != nil || x.Entries != nil || x.Config.Members != nil {
			t.Errorf("%v: %v, error %d", m, x, e)
		}
	}
	r := wire.NewReader(numbers(1, 2, 3)) // bad at an entry's id
	if e := TakeEntry(r); !sameEntry(e, api.Entry{}) {
		t.Errorf("%v", e)
	}
	r = wire.NewReader(numbers(9, 1, 2, 3)) // bad at a flag
	if c := TakeConfig(r); !sameConfig(c, api.Config{}) || c.Members != nil {
		t.Errorf("%v", c)
	}
}

// TestP0_3Refused holds that what is refused, or bad, changes no later answer.
func TestP0_3Refused(t *testing.T) {
	for _, m := range examples() {
		form := formOf(m)
		for range 3 {
			for _, n := range changes(m, []int{-1, 0, 9}) {
				Print(n)
			}
			Parse(form[:len(form)-1])
			Parse(append(slices.Clone(form), 1))
			TakeEntry(wire.NewReader(form))
			TakeConfig(wire.NewReader(form))
			prints(t, m)
		}
	}
	w := wire.NewWriter().Byte(7)
	MayEntry(api.Entry{})
	MayConfig(api.Config{})
	if b, e := w.Done(); e != api.OK || !bytes.Equal(b, []byte{7}) {
		t.Errorf("%v, error %d", b, e)
	}
}

// TestP0_4NotChanged holds that lists, bytes that are handed in are not changed, the room behind them neither.
func TestP0_4NotChanged(t *testing.T) {
	bodies, whole := roomy([]byte{1, 2, 3}, 7)
	one := api.Entry{Pos: 5, ID: 2, Body: bodies}
	other := one
	other.Pos = 6
	entries, wholeEntries := roomy([]api.Entry{one, other}, api.Entry{Pos: 7, ID: 2})
	members, wholeMembers := roomy(membersOf(3), api.Member{Node: 9, Since: 9})
	heldBytes, heldMembers := bytes.Clone(whole), slices.Clone(wholeMembers)
	heldEntries := laid(api.Message{Entries: wholeEntries})
	c := api.Config{Epoch: 9, Members: members}
	holds := func(name string) {
		t.Helper()
		if !bytes.Equal(whole, heldBytes) || !slices.Equal(wholeMembers, heldMembers) || !bytes.Equal(laid(api.Message{Entries: wholeEntries}), heldEntries) {
			t.Fatal(name)
		}
	}
	for _, m := range []api.Message{{Kind: api.MReply, ID: 1, Body: bodies}, {Kind: api.MAppend, From: 5, Entries: entries}, {Kind: api.MConfig, Config: c}} {
		if !May(m) {
			t.Fatalf("%v", m)
		}
		holds("May")
		b, _ := Print(m)
		holds("Print")
		in, wholeIn := roomy(b, 7)
		held := bytes.Clone(wholeIn)
		for range 2 {
			Parse(in)
			Parse(in[:len(in)-1])
			TakeEntry(wire.NewReader(in))
			TakeConfig(wire.NewReader(in))
		}
		if !bytes.Equal(wholeIn, held) {
			t.Fatal("Parse")
		}
		m.Kind = 3
		Print(m)
		holds("Print of one that may not be")
	}
	MayEntry(one)
	MayConfig(c)
	PutConfig(PutEntry(wire.NewWriter(), one), c)
	PutConfig(PutEntry(nil, one), c)
	holds("parts")
}

// TestP0_4NotKept holds that writing over what was handed in changes no answer.
func TestP0_4NotKept(t *testing.T) {
	for _, m := range examples() {
		in := clone(m)
		b, e := Print(in)
		spoilAll(in)
		if e != api.OK || !bytes.Equal(b, formOf(m)) {
			t.Fatalf("Print of %v: %v, error %d", m, b, e)
		}
		bytesIn, _ := roomy(b, 7)
		x, e := Parse(bytesIn)
		spoil(bytesIn)
		if e != api.OK || !same(x, m) {
			t.Fatalf("Parse of %v: %v, error %d", b, x, e)
		}
	}
	e, c := api.Entry{Pos: 3, ID: 4, Body: []byte{1, 2}}, api.Config{Epoch: 9, Members: membersOf(4)}
	want := append(entryForm(e), configForm(c)...)
	w := PutConfig(PutEntry(wire.NewWriter(), e), c)
	spoil(e.Body)
	spoilMembers(c.Members)
	if b, err := w.Done(); err != api.OK || !bytes.Equal(b, want) {
		t.Errorf("%v, error %d", b, err)
	}
}

// TestP0_4NotShared holds that what is answered is new memory, the room behind it too: writing over one list of an answer changes no other one, and nothing that is handed in.
func TestP0_4NotShared(t *testing.T) {
	for _, m := range examples() {
		in := clone(m)
		form := formOf(m)
		b, wholeBytes := roomy(form, 7)
		held := bytes.Clone(wholeBytes)
		for range 3 {
			p, _ := Print(in)
			q, _ := Print(in)
			x, _ := Parse(b)
			y, _ := Parse(b)
			spoil(p)
			spoilAll(x)
			if !bytes.Equal(q, form) || !same(y, m) || !same(in, m) || !bytes.Equal(wholeBytes, held) {
				t.Fatalf("%v: %v, %v, %v", m, q, y, wholeBytes)
			}
			for i := range y.Entries {
				spoil(y.Entries[i].Body)
				for j := range y.Entries {
					if is := bytes.Equal(y.Entries[j].Body, m.Entries[j].Body); is != (j > i) && len(m.Entries[j].Body) > 0 {
						t.Fatalf("%v: the body %d with that of %d", m, j, i)
					}
				}
			}
		}
	}
	part := append(entryForm(api.Entry{Body: []byte{1, 2, 3}}), configForm(api.Config{Members: membersOf(3)})...)
	r := wire.NewReader(slices.Concat(part, part))
	e, c := TakeEntry(r), TakeConfig(r)
	spoil(e.Body)
	spoilMembers(c.Members)
	if e, c := TakeEntry(r), TakeConfig(r); !bytes.Equal(e.Body, []byte{1, 2, 3}) || !slices.Equal(c.Members, membersOf(3)) {
		t.Errorf("%v, %v", e, c)
	}
}

// TestP0_4NilIsEmpty holds that lists that are nil are as such that are empty.
func TestP0_4NilIsEmpty(t *testing.T) {
	for _, m := range []api.Message{{Kind: api.MRequest, ID: 1}, {Kind: api.MReply, Client: 2, ID: 3}, {Kind: api.MAppend, From: 1}, {Kind: api.MAppend, From: 1, Entries: []api.Entry{{Pos: 1, ID: 1}}}, {Kind: api.MHave}, {Kind: api.MConfig, Config: api.Config{Epoch: 1}}, {Kind: api.MWhole, Since: 1}} {
		n := clone(m)
		n.Body, n.Config.Members = []byte{}, []api.Member{}
		if len(n.Entries) == 0 {
			n.Entries = []api.Entry{}
		}
		for i := range n.Entries {
			n.Entries[i].Body = []byte{}
		}
		a, e := Print(m)
		b, f := Print(n)
		if !May(m) || !May(n) || e != api.OK || f != api.OK || !bytes.Equal(a, b) {
			t.Errorf("%v: errors %d, %d", m, e, f)
		}
		if x, e := Parse(a); e != api.OK || !same(x, n) {
			t.Errorf("%v: error %d", x, e)
		}
		n.Kind = 0
		if May(n) {
			t.Errorf("%v may be", n)
		}
	}
	e, c := api.Entry{Pos: 1, ID: 1}, api.Config{Epoch: 1}
	x, _ := PutConfig(PutEntry(wire.NewWriter(), e), c).Done()
	e.Body, c.Members = []byte{}, []api.Member{}
	y, _ := PutConfig(PutEntry(wire.NewWriter(), e), c).Done()
	if !MayEntry(e) || !MayConfig(c) || !bytes.Equal(x, y) {
		t.Errorf("%v, %v", x, y)
	}
	for _, b := range [][]byte{nil, {}} {
		if _, e := Parse(b); e != notOne {
			t.Errorf("error %d", e)
		}
	}
}

// TestP0_4AtOnce holds that calls that run at once don't meet in any memory.
func TestP0_4AtOnce(t *testing.T) {
	var all sync.WaitGroup
	shared := examples()
	errs := make([]error, 8)
	for i := range errs {
		all.Go(func() {
			c := rand.New(rand.NewSource(int64(900 + i)))
			for range 300 {
				for _, m := range []api.Message{chance(c), shared[c.Intn(len(shared))]} {
					if err := printsLike(m); err != nil {
						errs[i] = err
					}
				}
				e, x := entryBy(c, 1), configBy(c)
				b, err := PutConfig(PutEntry(wire.NewWriter(), e), x).Done()
				r := wire.NewReader(b)
				if err != api.OK || !sameEntry(TakeEntry(r), e) || !sameConfig(TakeConfig(r), x) || !MayEntry(e) || !MayConfig(x) {
					errs[i] = fmt.Errorf("%v, %v: error %d", e, x, err)
				}
			}
		})
	}
	all.Wait()
	for i, err := range errs {
		if err != nil {
			t.Errorf("%d: %v", i, err)
		}
	}
}

// TestWaysArray holds that each Kind stands at its place, with all its functions, and that none stands at any other.
func TestWaysArray(t *testing.T) {
	l := kinds()
	if len(l) != 7 || l[0].others != nil || l[0].asks != nil || l[0].writes != nil || l[0].reads != nil {
		t.Errorf("%d places, or a Kind 0", len(l))
	}
	for _, m := range examples() {
		k := l[m.Kind]
		if !k.asks(m) || !none(k.others(m)) || k.asks(api.Message{}) != (m.Kind == api.MHave) {
			t.Errorf("%v isn't as its Kind asks", m)
		}
		b, e := k.writes(wire.NewWriter(), m).Done()
		if e != api.OK || !bytes.Equal(b, formOf(m)[1:]) {
			t.Errorf("%v: %v, error %d", m, b, e)
		}
		x := k.reads(wire.NewReader(b))
		x.Kind = m.Kind
		if !same(x, m) {
			t.Errorf("%v: %v", m, x)
		}
	}
	for k := range 256 {
		if _, ok := kindOf(uint8(k)); ok != (k >= 1 && k <= 6) {
			t.Errorf("kind %d: %v", k, ok)
		}
	}
}

// TestWaysGeneric holds that whether all of a list are right is told at its places, in order, up to the first one that isn't.
func TestWaysGeneric(t *testing.T) {
	for n := range 6 {
		l := edges()[:n]
		for bad := range 7 {
			at := 0
			ok := all(l, func(i, x int) bool {
				if i != at || x != l[i] {
					t.Fatalf("%d at %d, not %d", x, i, at)
				}
				at++
				return i != bad
			})
			if ok != (bad >= n) || at != min(n, bad+1) {
				t.Errorf("%d, %d is bad: %v, at %d", n, bad, ok, at)
			}
		}
	}
	if !all([]string(nil), func(int, string) bool { return false }) || all([]float64{math.Pi}, func(int, float64) bool { return false }) {
		t.Error("none, one")
	}
}
