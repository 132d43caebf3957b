package message

import (
	"bytes"
	"math"
	"math/rand"
	"slices"
	"testing"

	"seneschal/api"
	"seneschal/wire"
)

// TestP20_1Examples holds the chapter's examples, byte by byte.
func TestP20_1Examples(t *testing.T) {
	m := api.Message{Kind: api.MHave, Have: 2, Done: 1}
	form := []byte{3, 0, 0, 0, 0, 0, 0, 0, 2, 0, 0, 0, 0, 0, 0, 0, 1}
	if b, e := Print(m); e != api.OK || !bytes.Equal(b, form) || len(b) != 17 || !May(m) {
		t.Errorf("%v, error %d", b, e)
	}
	if x, e := Parse(form); e != api.OK || !same(x, m) {
		t.Errorf("%v, error %d", x, e)
	}
	for _, m := range []api.Message{{Kind: api.MHave, Have: 1, Done: 2}, {}, {Kind: api.MWhole, Since: 1, Client: 1}, {Kind: api.MWhole, Client: 1}} {
		if b, e := Print(m); May(m) || e != api.ErrArg || b != nil {
			t.Errorf("%v: %v, error %d", m, b, e)
		}
	}
}

// TestP20_1Errors holds the errors' numbers.
func TestP20_1Errors(t *testing.T) {
	if _, e := Print(api.Message{}); e != 2 {
		t.Errorf("Print: error %d", e)
	}
	if _, e := Parse(nil); e != 200 {
		t.Errorf("Parse: error %d", e)
	}
	if _, e := Parse([]byte{3, 0}); e != 200 {
		t.Errorf("Parse of a beginning: error %d", e)
	}
}

// TestP20_1Forms holds a form of each Kind, byte by byte.
func TestP20_1Forms(t *testing.T) {
	n := func(x byte) []byte { return []byte{0, 0, 0, 0, 0, 0, 0, x} }
	for _, x := range []struct {
		m    api.Message
		form [][]byte
	}{
		{api.Message{Kind: api.MRequest, Client: 2, ID: 7, Body: []byte{8, 9}}, [][]byte{{1}, n(2), n(7), {0, 0, 0, 2, 8, 9}}},
		{api.Message{Kind: api.MReply, Client: 3, ID: 258}, [][]byte{{6}, n(3), {0, 0, 0, 0, 0, 0, 1, 2}, {0, 0, 0, 0}}},
		{api.Message{Kind: api.MAppend, Upto: 4, From: 5}, [][]byte{{2}, n(4), n(5), n(0)}},
		{
			api.Message{Kind: api.MAppend, Upto: 9, From: 6, Entries: []api.Entry{{Pos: 6, Stamp: 11, Client: 1, ID: 12, Body: []byte{13}}, {Pos: 7, Stamp: 14, Client: 2, ID: 15}}},
			[][]byte{{2}, n(9), n(6), n(2), n(11), n(1), n(12), {0, 0, 0, 1, 13}, n(14), n(2), n(15), {0, 0, 0, 0}},
		},
		{api.Message{Kind: api.MHave, Have: 6, Done: 5}, [][]byte{{3}, n(6), n(5)}},
		{
			api.Message{Kind: api.MConfig, Config: api.Config{Epoch: 8, Members: []api.Member{{Node: 4, Since: 6, Whole: true}, {Node: 0, Since: 7}}}},
			[][]byte{{4}, n(8), n(2), n(4), n(6), {1}, n(0), n(7), {0}},
		},
		{api.Message{Kind: api.MConfig, Config: api.Config{Epoch: 1}}, [][]byte{{4}, n(1), n(0)}},
		{api.Message{Kind: api.MWhole, Since: 3}, [][]byte{{5}, n(3)}},
	} {
		form := slices.Concat(x.form...)
		if b, e := Print(x.m); e != api.OK || !bytes.Equal(b, form) {
			t.Errorf("Print of %v: %v, error %d", x.m, b, e)
		}
		if m, e := Parse(form); e != api.OK || !same(m, x.m) {
			t.Errorf("Parse of %v: %v, error %d", form, m, e)
		}
	}
}

// TestP20_1Kinds holds of each number that may stand as a Kind whether there is such a Kind, with the fields of each Kind that there is.
func TestP20_1Kinds(t *testing.T) {
	for k := range 256 {
		is := 0
		for _, m := range append(examples(), api.Message{}) {
			was := m.Kind
			m.Kind = uint8(k)
			if prints(t, m) {
				is++
			}
			b := formOf(m)
			b[0] = was
			parses(t, b)
			b = formOf(api.Message{Kind: was, ID: 1})
			b[0] = uint8(k)
			parses(t, b)
		}
		if (is > 0) != (k >= 1 && k <= 6) {
			t.Errorf("kind %d: %d may be", k, is)
		}
	}
}

// TestP20_1Table holds the chapter's table at its edges, row by row.
func TestP20_1Table(t *testing.T) {
	for _, m := range examples() {
		if !prints(t, m) {
			t.Errorf("%v may not be", m)
		}
	}
	e := api.Entry{Pos: 1, ID: 1}
	for _, m := range []api.Message{
		{Kind: api.MRequest, Client: 4, ID: 1}, {Kind: api.MReply, Client: -1, ID: 1}, {Kind: api.MRequest}, {Kind: api.MReply, ID: -1}, {Kind: api.MRequest, ID: 1, Body: make([]byte, 20001)},
		{Kind: api.MAppend}, {Kind: api.MAppend, Upto: -1, From: 1}, {Kind: api.MAppend, From: -1}, {Kind: api.MAppend, From: 2, Entries: []api.Entry{e}}, {Kind: api.MAppend, From: 1, Entries: []api.Entry{e, e}},
		{Kind: api.MAppend, From: 1, Entries: entriesFrom(1, 5)}, {Kind: api.MAppend, From: 1, Entries: []api.Entry{{Pos: 1, Stamp: -1, ID: 1}}}, {Kind: api.MAppend, From: 1, Entries: []api.Entry{{Pos: 1, Client: 4, ID: 1}}}, {Kind: api.MAppend, From: 1, Entries: []api.Entry{{Pos: 1}}}, {Kind: api.MAppend, From: 1, Entries: []api.Entry{{Pos: 1, ID: 1, Body: make([]byte, 1025)}}},
		{Kind: api.MHave, Have: 2, Done: 3}, {Kind: api.MHave, Have: -1}, {Kind: api.MHave, Have: -1, Done: -1}, {Kind: api.MHave, Done: 1}, {Kind: api.MHave, Done: -1},
		{Kind: api.MConfig}, {Kind: api.MConfig, Config: api.Config{Epoch: -1}}, {Kind: api.MConfig, Config: api.Config{Epoch: 9, Members: membersOf(6)}}, {Kind: api.MConfig, Config: api.Config{Epoch: 1, Members: []api.Member{{Node: 1}}}},
		{Kind: api.MWhole}, {Kind: api.MWhole, Since: -1},
	} {
		if prints(t, m) {
			t.Errorf("%v may be", m)
		}
	}
}

// TestP20_1Fields holds of each message each of its fields, and each other one, at all places at which something may end.
func TestP20_1Fields(t *testing.T) {
	for _, m := range examples() {
		for _, n := range changes(m, append(edges(), m.Config.Epoch+1, m.Config.Epoch-1, m.From+1, m.From-1)) {
			prints(t, n)
		}
	}
}

// TestP20_1TwoFields holds that a field that is wrong isn't made good by another one.
func TestP20_1TwoFields(t *testing.T) {
	for i, m := range examples() {
		if i%2 > 0 {
			continue
		}
		for _, n := range changes(m, few()) {
			if len(n.Body) > 1 {
				continue // it is long, and tells no more than others
			}
			for _, o := range changes(n, []int{-1, 0, 1, 5}) {
				if May(o) != mayBe(o) {
					t.Fatalf("May of %.300v: %v", o, May(o))
				}
			}
		}
	}
}

// TestP20_1Others holds that all fields that aren't the Kind's are zero, each alone.
func TestP20_1Others(t *testing.T) {
	others := func(own string) []api.Message {
		var l []api.Message
		for name, m := range map[string]api.Message{
			"Client": {Client: 1}, "ID": {ID: 1}, "Body": {Body: []byte{0}}, "Upto": {Upto: 1}, "From": {From: 1}, "Entries": {Entries: make([]api.Entry, 1)},
			"Have": {Have: 1}, "Done": {Done: 1}, "Epoch": {Config: api.Config{Epoch: 1}}, "Members": {Config: api.Config{Members: make([]api.Member, 1)}}, "Since": {Since: 1},
		} {
			if !slices.Contains(map[string][]string{"said": {"Client", "ID", "Body"}, "append": {"Upto", "From", "Entries"}, "have": {"Have", "Done"}, "config": {"Epoch", "Members"}, "whole": {"Since"}}[own], name) {
				l = append(l, m)
			}
		}
		return l
	}
	for _, m := range examples() {
		own := map[uint8]string{1: "said", 2: "append", 3: "have", 4: "config", 5: "whole", 6: "said"}[m.Kind]
		for _, o := range others(own) {
			o.Kind = m.Kind
			o.Client, o.ID, o.Body = o.Client+m.Client, o.ID+m.ID, append(o.Body, m.Body...)
			o.Upto, o.From, o.Entries = o.Upto+m.Upto, o.From+m.From, append(o.Entries, m.Entries...)
			o.Have, o.Done, o.Since = o.Have+m.Have, o.Done+m.Done, o.Since+m.Since
			o.Config.Epoch, o.Config.Members = o.Config.Epoch+m.Config.Epoch, append(o.Config.Members, m.Config.Members...)
			if prints(t, o) {
				t.Errorf("%v may be", o)
			}
		}
	}
}

// TestP20_1Bodies holds how many bytes a Body may have, of whatever bytes.
func TestP20_1Bodies(t *testing.T) {
	for _, n := range []int{0, 1, 2, 255, 256, 1023, 1024, 1025, 2000, 19999, 20000, 20001, 20002, 65500, 65535, 65536, 65537, 1 << 17} {
		for _, k := range []uint8{api.MRequest, api.MReply} {
			if prints(t, api.Message{Kind: k, ID: 1, Body: some(n)}) != (n <= 20000) {
				t.Errorf("kind %d: %d bytes", k, n)
			}
		}
		for i := range batch {
			m := api.Message{Kind: api.MAppend, From: 2, Entries: entriesFrom(2, batch)}
			m.Entries[i].Body = some(n)
			if prints(t, m) != (n <= 1024) {
				t.Errorf("entry %d: %d bytes", i, n)
			}
		}
	}
	m := api.Message{Kind: api.MAppend, From: 2, Entries: entriesFrom(2, batch)}
	for i := range m.Entries {
		m.Entries[i].Body = some(1024)
	}
	if !prints(t, m) {
		t.Errorf("the longest may not be")
	}
	for x := range 256 {
		prints(t, api.Message{Kind: api.MReply, ID: 1, Body: bytes.Repeat([]byte{byte(x)}, x)})
	}
}

// TestP20_1Places holds where entries stand: also at the greatest number, behind which there is none.
func TestP20_1Places(t *testing.T) {
	for _, from := range edges() {
		for n := range batch + 3 {
			m := api.Message{Kind: api.MAppend, From: from, Entries: entriesFrom(from, n)}
			want := from >= 1 && n <= batch && (n == 0 || from <= math.MaxInt-n+1)
			if prints(t, m) != want {
				t.Fatalf("%d from %d: %v", n, from, !want)
			}
			for i := range n {
				for _, d := range []int{-5, -1, 1, 5, math.MinInt} {
					o := clone(m)
					o.Entries[i].Pos += d
					if prints(t, o) {
						t.Fatalf("%d from %d, the one at %d by %d off", n, from, i, d)
					}
				}
			}
		}
	}
}

// TestP20_1Members holds all pairs of members, at all places: no two have the same Node.
func TestP20_1Members(t *testing.T) {
	for n := range nodes + 1 {
		for i := range n {
			for j := range n {
				for node := -1; node <= nodes; node++ {
					c := api.Config{Epoch: 9, Members: membersOf(n)}
					c.Members[i].Node, c.Members[j].Node = node, c.Members[(j+1)%n].Node
					prints(t, api.Message{Kind: api.MConfig, Config: c})
					if MayConfig(c) != configMay(c) {
						t.Fatalf("%v: %v", c, MayConfig(c))
					}
				}
			}
		}
	}
	for n := range 1 << nodes { // whoever of them is whole
		c := api.Config{Epoch: 9, Members: membersOf(nodes)}
		for i := range c.Members {
			c.Members[i].Whole = n>>i&1 > 0
		}
		if !prints(t, api.Message{Kind: api.MConfig, Config: c}) {
			t.Errorf("%v may not be", c)
		}
	}
	if MayConfig(api.Config{Epoch: 1, Members: make([]api.Member, 1<<16)}) {
		t.Error("many members")
	}
}

// TestP20_1OneByte holds, of each byte of all examples' forms, what all that may stand in its place make of it.
func TestP20_1OneByte(t *testing.T) {
	for _, m := range examples() {
		b := formOf(m)
		for at := range b {
			kept := b[at]
			for x := range 256 {
				b[at] = byte(x)
				parses(t, b)
			}
			b[at] = kept
		}
	}
}

// TestP20_1Counts holds what comes of a count that isn't that of what stands behind it: also where the bytes behind it could be that.
func TestP20_1Counts(t *testing.T) {
	for _, n := range edges() {
		for k := range 8 {
			e, c := numbers(0, 2, n), numbers(9, n)
			for i := range k {
				e = append(e, entryForm(entriesFrom(2, k)[i])[8:]...)
			}
			c = append(c, configForm(api.Config{Members: membersOf(k)})[16:]...)
			for _, b := range [][]byte{append([]byte{2}, e...), append([]byte{4}, c...)} {
				parses(t, b)
				parses(t, append(b, 0))
				parses(t, append(b, make([]byte, 28)...))
				parses(t, append(b, make([]byte, 17)...))
				parses(t, b[:len(b)-1])
			}
			if _, e := Parse(append([]byte{2}, e...)); (e == api.OK) != (n == k && k <= batch) {
				t.Fatalf("%d of %d entries: error %d", n, k, e)
			}
			if _, e := Parse(append([]byte{4}, c...)); (e == api.OK) != (n == k && k <= nodes) {
				t.Fatalf("%d of %d members: error %d", n, k, e)
			}
		}
	}
}

// TestP20_1Lengths holds what comes of a Body's length that isn't that of the bytes behind it.
func TestP20_1Lengths(t *testing.T) {
	for _, m := range []api.Message{{Kind: api.MRequest, ID: 1, Body: make([]byte, 40)}, {Kind: api.MReply, ID: 1, Body: some(3)}, {Kind: api.MAppend, From: 1, Entries: entriesFrom(1, 3)}} {
		form := formOf(m)
		for at := 1; at+4 <= len(form); at++ {
			for _, n := range []uint32{0, 1, 2, 3, 4, 5, 6, 7, 8, 39, 40, 41, 1024, 1025, 20000, 20001, 1 << 16, 1<<16 + 1, 1 << 24, 1<<31 - 1, 1 << 31, 1<<32 - 1} {
				b := slices.Clone(form)
				copy(b[at:], []byte{byte(n >> 24), byte(n >> 16), byte(n >> 8), byte(n)})
				parses(t, b)
			}
		}
	}
}

// TestP20_1Long holds that bytes are ErrMessage, however many there are: there is no ErrLong of them.
func TestP20_1Long(t *testing.T) {
	for _, n := range []int{0, 1, 9, 17, 20020, 20021, 20022, 65535, 65536, 65537, 1 << 20} {
		for _, k := range []byte{0, 1, 2, 3, 4, 5, 6, 7, 255} {
			b := make([]byte, n+1)
			b[0] = k
			if m, e := Parse(b); e != 200 || !same(m, api.Message{}) {
				t.Fatalf("%d bytes of kind %d: error %d", n+1, k, e)
			}
		}
	}
	for _, n := range []int{20000, 20001, 65536 - 21, 65536 - 20} {
		b := formOf(api.Message{Kind: api.MReply, ID: 1, Body: some(n)})
		if e := parses(t, b); (e == api.OK) != (n <= 20000) {
			t.Fatalf("a body of %d bytes: error %d", n, e)
		}
	}
}

// TestP20_2May holds which entries may be.
func TestP20_2May(t *testing.T) {
	for _, e := range []api.Entry{{Pos: 1, ID: 1}, {Pos: math.MaxInt, Stamp: math.MaxInt, Client: 3, ID: math.MaxInt, Body: make([]byte, 1024)}, {Pos: 7, Stamp: 1<<40 + 1, Client: 2, ID: 9, Body: []byte{1}}} {
		if !MayEntry(e) {
			t.Errorf("%v may not be", e)
		}
		for _, x := range edges() {
			for _, of := range []func(f *api.Entry) *int{func(f *api.Entry) *int { return &f.Pos }, func(f *api.Entry) *int { return &f.Stamp }, func(f *api.Entry) *int { return &f.Client }, func(f *api.Entry) *int { return &f.ID }} {
				f := e
				*of(&f) = x
				if MayEntry(f) != entryMay(f) {
					t.Errorf("%.300v: %v", f, MayEntry(f))
				}
			}
			if x >= 0 && x < 1<<21 {
				e.Body = make([]byte, x)
				if MayEntry(e) != (x <= 1024) {
					t.Errorf("%d bytes: %v", x, MayEntry(e))
				}
			}
		}
	}
	for _, e := range []api.Entry{{}, {ID: 1}, {Pos: 1}, {Pos: -1, ID: 1}, {Pos: 1, Stamp: -1, ID: 1}, {Pos: 1, Client: 4, ID: 1}, {Pos: 1, Client: -1, ID: 1}, {Pos: 1, ID: -1}, {Pos: 1, ID: 1, Body: make([]byte, 1025)}} {
		if MayEntry(e) {
			t.Errorf("%.300v may be", e)
		}
	}
}

// TestP20_2Pairs holds all pairs of an entry's numbers.
func TestP20_2Pairs(t *testing.T) {
	for i := range 4 {
		for j := range i {
			for _, x := range few() {
				for _, y := range few() {
					n := [4]int{1, 0, 0, 1}
					n[i], n[j] = x, y
					if e := (api.Entry{Pos: n[0], Stamp: n[1], Client: n[2], ID: n[3]}); MayEntry(e) != entryMay(e) {
						t.Errorf("%v: %v", e, MayEntry(e))
					}
				}
			}
		}
	}
}

// TestP20_2Part holds an entry's part, byte by byte, and what is read of it: also of one that may not be.
func TestP20_2Part(t *testing.T) {
	e := api.Entry{Pos: 1, Stamp: 2, Client: 3, ID: 260, Body: []byte{5, 6}}
	part := []byte{0, 0, 0, 0, 0, 0, 0, 1, 0, 0, 0, 0, 0, 0, 0, 2, 0, 0, 0, 0, 0, 0, 0, 3, 0, 0, 0, 0, 0, 0, 1, 4, 0, 0, 0, 2, 5, 6}
	if b, err := PutEntry(wire.NewWriter(), e).Done(); err != api.OK || !bytes.Equal(b, part) {
		t.Errorf("%v, error %d", b, err)
	}
	if x := TakeEntry(wire.NewReader(part)); !sameEntry(x, e) {
		t.Errorf("%v", x)
	}
	for _, x := range append(edges(), 0x0102030405060708) {
		for _, n := range []int{0, 1, 1024, 1025, 30000} {
			e := api.Entry{Pos: x, Stamp: x + 1, Client: x + 2, ID: x + 3, Body: some(n)}
			w := wire.NewWriter().Byte(9)
			if PutEntry(w, e) != w {
				t.Fatal("another writer")
			}
			b, err := w.Flag(true).Done()
			if want := slices.Concat([]byte{9}, entryForm(e), []byte{1}); err != api.OK || !bytes.Equal(b, want) {
				t.Fatalf("%.300v: %.300v, error %d", e, b, err)
			}
			if !takesEntry(t, entryForm(e)) || !takesEntry(t, append(entryForm(e), 7, 8, 9)) {
				t.Fatalf("%.300v isn't read", e)
			}
		}
	}
}

// TestP20_2Short holds that of bytes that are missing no entry is read, not even what there is of it.
func TestP20_2Short(t *testing.T) {
	part := entryForm(api.Entry{Pos: 7, Stamp: 8, Client: 9, ID: 10, Body: []byte{11, 12}})
	for n := range part {
		if takesEntry(t, part[:n]) {
			t.Errorf("%d bytes", n)
		}
	}
	for _, n := range []byte{0, 1, 2, 3, 4, 255} {
		b := slices.Clone(part)
		b[35] = n
		if takesEntry(t, b) != (n <= 2) {
			t.Errorf("a length of %d", n)
		}
		b[32] = n
		takesEntry(t, b)
	}
	r := wire.NewReader(make([]byte, 65537))
	if e := TakeEntry(r); !sameEntry(e, api.Entry{}) || e.Body != nil || r.Err() != api.ErrLong {
		t.Errorf("%v, error %d", e, r.Err())
	}
}

// TestP20_2Long holds what comes of an entry for which a form has no room.
func TestP20_2Long(t *testing.T) {
	for _, n := range []int{65536 - 36 - 1, 65536 - 36, 65536 - 36 + 1, 65536, 65537, 1 << 20} {
		w := wire.NewWriter()
		if PutEntry(w, api.Entry{Pos: 1, ID: 1, Body: make([]byte, n)}) != w {
			t.Fatal("another writer")
		}
		want := api.OK
		if n > 65536-36 {
			want = api.ErrLong
		}
		if _, e := w.Done(); e != want {
			t.Errorf("%d bytes: error %d", n, e)
		}
	}
}

// TestP20_3May holds which configurations may be.
func TestP20_3May(t *testing.T) {
	for _, epoch := range edges() {
		for n := range nodes + 2 {
			c := api.Config{Epoch: epoch, Members: membersOf(n)}
			for _, x := range append(edges(), epoch, epoch-1, epoch+1) {
				for i := range n {
					c.Members = membersOf(n)
					for j := range c.Members {
						c.Members[j].Since = max(1, min(c.Members[j].Since, epoch))
					}
					if MayConfig(c) != (epoch >= 1 && n <= nodes) {
						t.Fatalf("%v: %v", c, MayConfig(c))
					}
					c.Members[i].Since = x
					if MayConfig(c) != configMay(c) {
						t.Fatalf("%v: %v", c, MayConfig(c))
					}
					c.Members[i].Since, c.Members[i].Node = 1, x
					if MayConfig(c) != configMay(c) {
						t.Fatalf("%v: %v", c, MayConfig(c))
					}
				}
			}
			c.Members = nil
			if MayConfig(c) != (epoch >= 1) {
				t.Fatalf("%v: %v", c, MayConfig(c))
			}
		}
	}
}

// TestP20_3Part holds a configuration's part, byte by byte, and what is read of it: also of one that may not be.
func TestP20_3Part(t *testing.T) {
	c := api.Config{Epoch: 5, Members: []api.Member{{Node: 3, Since: 4, Whole: true}, {Node: 1, Since: 2}}}
	part := []byte{0, 0, 0, 0, 0, 0, 0, 5, 0, 0, 0, 0, 0, 0, 0, 2, 0, 0, 0, 0, 0, 0, 0, 3, 0, 0, 0, 0, 0, 0, 0, 4, 1, 0, 0, 0, 0, 0, 0, 0, 1, 0, 0, 0, 0, 0, 0, 0, 2, 0}
	if b, err := PutConfig(wire.NewWriter(), c).Done(); err != api.OK || !bytes.Equal(b, part) {
		t.Errorf("%v, error %d", b, err)
	}
	if x := TakeConfig(wire.NewReader(part)); !sameConfig(x, c) {
		t.Errorf("%v", x)
	}
	for _, x := range append(edges(), 0x0102030405060708) {
		for n := range 9 {
			c := api.Config{Epoch: x, Members: membersOf(n)}
			for i := range c.Members {
				c.Members[i].Node, c.Members[i].Since = x+1+i, x-2-i
			}
			w := wire.NewWriter().Byte(9)
			if PutConfig(w, c) != w {
				t.Fatal("another writer")
			}
			b, err := w.Flag(true).Done()
			if want := slices.Concat([]byte{9}, configForm(c), []byte{1}); err != api.OK || !bytes.Equal(b, want) {
				t.Fatalf("%v: %v, error %d", c, b, err)
			}
			for _, b := range [][]byte{configForm(c), append(configForm(c), 7, 8, 9)} {
				if takesConfig(t, b) != (n <= 5) {
					t.Fatalf("%v", c)
				}
			}
		}
	}
}

// TestP20_3Short holds that of bytes that are missing no configuration is read, not even what there is of it.
func TestP20_3Short(t *testing.T) {
	part := configForm(api.Config{Epoch: 9, Members: membersOf(3)})
	for n := range part {
		if takesConfig(t, part[:n]) {
			t.Errorf("%d bytes", n)
		}
	}
	for x := range 256 {
		for _, at := range []int{16 + 16, 16 + 17 + 16, 16 + 17*2 + 16} { // flags
			b := slices.Clone(part)
			b[at] = byte(x)
			if takesConfig(t, b) != (x <= 1) {
				t.Errorf("a flag of %d", x)
			}
		}
		for at := range 8 {
			b := slices.Clone(part)
			b[8+at] = byte(x)
			takesConfig(t, b)
			takesConfig(t, append(b, make([]byte, 17*300)...))
		}
	}
	r := wire.NewReader(make([]byte, 65537))
	if c := TakeConfig(r); !sameConfig(c, api.Config{}) || c.Members != nil || r.Err() != api.ErrLong {
		t.Errorf("%v, error %d", c, r.Err())
	}
}

// TestP20_3Many holds that of more than five members the reader is bad, whatever stands behind the count.
func TestP20_3Many(t *testing.T) {
	for _, n := range edges() {
		b := slices.Concat(numbers(9, n), configForm(api.Config{Members: slices.Repeat(membersOf(5), 60)})[16:])
		r := wire.NewReader(b)
		c := TakeConfig(r)
		if n >= 0 && n <= 5 {
			if r.Err() != api.OK || len(c.Members) != n || c.Epoch != 9 || r.Left() != 17*(300-n) {
				t.Errorf("%d members: %v, error %d", n, c, r.Err())
			}
			continue
		}
		if r.Err() != api.ErrWire || !sameConfig(c, api.Config{}) || c.Members != nil || r.Left() != 0 {
			t.Errorf("%d members: %v, error %d", n, c, r.Err())
		}
	}
}

// TestP20_3Long holds what comes of a configuration for which a form has no room.
func TestP20_3Long(t *testing.T) {
	for _, n := range []int{3854, 3855, 1 << 16} {
		w := wire.NewWriter()
		if PutConfig(w, api.Config{Epoch: 1, Members: make([]api.Member, n)}) != w {
			t.Fatal("another writer")
		}
		want := api.OK
		if 16+17*n > 65536 {
			want = api.ErrLong
		}
		if _, e := w.Done(); e != want {
			t.Errorf("%d members: error %d", n, e)
		}
	}
}

// TestP20_4Parts holds that parts that stand behind one another are read as they were written, and nothing is left.
func TestP20_4Parts(t *testing.T) {
	c := rand.New(rand.NewSource(204))
	for range 2000 {
		w := wire.NewWriter()
		var entries []api.Entry
		var configs []api.Config
		for range c.Intn(5) {
			e, x := entryBy(c, number(c)), configBy(c)
			e.Body = e.Body[:min(len(e.Body), 500)]
			if !MayEntry(e) || !MayConfig(x) {
				t.Fatalf("%v, %v", e, x)
			}
			PutConfig(PutEntry(w, e), x)
			entries, configs = append(entries, e), append(configs, x)
		}
		b, err := w.Done()
		if err != api.OK {
			t.Fatalf("error %d", err)
		}
		r := wire.NewReader(b)
		for i := range entries {
			if e := TakeEntry(r); !sameEntry(e, entries[i]) {
				t.Fatalf("%v, not %v", e, entries[i])
			}
			if x := TakeConfig(r); !sameConfig(x, configs[i]) {
				t.Fatalf("%v, not %v", x, configs[i])
			}
		}
		if r.End() != api.OK {
			t.Fatalf("error %d", r.End())
		}
	}
}

// TestP20_4ByChance holds any messages that may be, there and back, and ones with some fields otherwise.
func TestP20_4ByChance(t *testing.T) {
	c := rand.New(rand.NewSource(20))
	for range 4000 {
		m := chance(c)
		if !prints(t, m) {
			t.Fatalf("%.300v may not be", m)
		}
		if len(m.Body) > 100 {
			continue
		}
		l := changes(m, []int{edges()[c.Intn(len(edges()))], number(c), -number(c), c.Intn(9)})
		for range 5 {
			prints(t, l[c.Intn(len(l))])
		}
	}
}

// TestP20_4Bytes holds what is read of bytes by chance, and of forms some bytes of which are otherwise: what is read has that form.
func TestP20_4Bytes(t *testing.T) {
	c := rand.New(rand.NewSource(21))
	read := 0
	for range 60000 {
		m := chance(c)
		m.Body = m.Body[:min(len(m.Body), 60)]
		b := formOf(m)
		for range 1 + c.Intn(3) {
			switch at := c.Intn(len(b)); c.Intn(4) {
			case 0:
				b[at] = byte(c.Intn(256))
			case 1:
				b[at] ^= 1 << c.Intn(8)
			case 2:
				b = slices.Delete(b, at, min(at+1+c.Intn(3), len(b)))
			case 3:
				b = slices.Insert(b, at, byte(c.Intn(4)))
			}
			if len(b) == 0 {
				b = []byte{0}
			}
		}
		if parses(t, b) == api.OK {
			read++
		}
		parses(t, junk(c, 60))
	}
	if read < 5000 {
		t.Errorf("only %d were forms", read)
	}
}

// TestP20_5NoOther holds that no beginning of a form is one, nor a form with bytes behind it.
func TestP20_5NoOther(t *testing.T) {
	c := rand.New(rand.NewSource(205))
	l := examples()
	for range 300 {
		m := chance(c)
		m.Body = m.Body[:min(len(m.Body), 200)]
		l = append(l, m)
	}
	for _, m := range l {
		form := formOf(m)
		for n := range form {
			if x, e := Parse(form[:n]); e != 200 || !same(x, api.Message{}) {
				t.Fatalf("%d bytes of %.300v: %.300v, error %d", n, form, x, e)
			}
		}
		for _, behind := range [][]byte{{0}, {1}, {255}, make([]byte, 8), make([]byte, 17), make([]byte, 28), form, formOf(examples()[0])} {
			if x, e := Parse(slices.Concat(form, behind)); e != 200 || !same(x, api.Message{}) {
				t.Fatalf("%.300v and %.300v: %.300v, error %d", form, behind, x, e)
			}
		}
		if _, e := Parse(form); e != api.OK {
			t.Fatalf("%.300v: error %d", form, e)
		}
	}
}
