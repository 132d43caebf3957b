package message

import (
	"bytes"
	"encoding/binary"
	"fmt"
	"math"
	"math/rand"
	"slices"
	"testing"

	"seneschal/api"
	"seneschal/wire"
)

// The chapter's errors and numbers, written out.
const (
	wrong  api.Errno = 2
	notOne api.Errno = 200

	nodes   = 5
	clients = 4
	batch   = 4
	asked   = 1024  // bytes of an entry's body
	said    = 20000 // bytes of a request's, a reply's body
	most    = 65536 // bytes of a form
)

// The kinds, by their numbers.
const (
	aRequest = 1 + iota
	anAppend
	aHave
	aConfig
	aWhole
	aReply
)

// kindsAll are all of them.
var kindsAll = []uint8{aRequest, anAppend, aHave, aConfig, aWhole, aReply}

// within tells whether a number is one of those from least to greatest.
func within(n, least, greatest int) bool { return !(n < least || n > greatest) }

// entryMay tells whether an entry may be.
func entryMay(e api.Entry) bool {
	return within(e.Pos, 1, math.MaxInt) && within(e.Stamp, 0, math.MaxInt) && within(e.Client, 0, clients-1) && within(e.ID, 1, math.MaxInt) && len(e.Body) < asked+1
}

// configMay tells whether a configuration may be.
func configMay(c api.Config) bool {
	var seen []int
	for _, m := range c.Members {
		if !within(m.Node, 0, nodes-1) || slices.Contains(seen, m.Node) || !within(m.Since, 1, c.Epoch) {
			return false
		}
		seen = append(seen, m.Node)
	}
	return c.Epoch > 0 && len(seen) < nodes+1
}

// appendMay tells whether an append's fields may be. Places are counted without going over the greatest number.
func appendMay(m api.Message) bool {
	if m.Upto < 0 || m.From < 1 || len(m.Entries) > batch {
		return false
	}
	for i, e := range m.Entries {
		if i > math.MaxInt-m.From || e.Pos-i != m.From || !entryMay(e) {
			return false
		}
	}
	return true
}

// mayBe tells whether a message may be: its own fields are taken over to a new one, and nothing else of it may be left.
func mayBe(m api.Message) bool {
	own := api.Message{Kind: m.Kind}
	ok := false
	switch m.Kind {
	case aRequest, aReply:
		own.Client, own.ID, own.Body = m.Client, m.ID, m.Body
		ok = within(m.Client, 0, clients-1) && within(m.ID, 1, math.MaxInt) && len(m.Body) < said+1
	case anAppend:
		own.Upto, own.From, own.Entries = m.Upto, m.From, m.Entries
		ok = appendMay(m)
	case aHave:
		own.Have, own.Done = m.Have, m.Done
		ok = m.Have > -1 && m.Done > -1 && !(m.Done > m.Have)
	case aConfig:
		own.Config = m.Config
		ok = configMay(m.Config)
	case aWhole:
		own.Since = m.Since
		ok = m.Since > 0
	}
	return ok && same(m, own)
}

// numbers, counted tell the forms of numbers, and of bytes.
func numbers(l ...int) []byte {
	var b []byte
	for _, n := range l {
		b = binary.BigEndian.AppendUint64(b, uint64(n))
	}
	return b
}

func counted(b []byte) []byte {
	return append(binary.BigEndian.AppendUint32(nil, uint32(len(b))), b...)
}

// entryForm, configForm tell the parts, whether they may be or not.
func entryForm(e api.Entry) []byte {
	return append(numbers(e.Pos, e.Stamp, e.Client, e.ID), counted(e.Body)...)
}

func configForm(c api.Config) []byte {
	b := numbers(c.Epoch, len(c.Members))
	for _, m := range c.Members {
		b = append(b, numbers(m.Node, m.Since)...)
		b = append(b, map[bool]byte{false: 0, true: 1}[m.Whole])
	}
	return b
}

// formOf tells a message's form, whether it may be or not; of a Kind that there isn't, its byte and all that it may have.
func formOf(m api.Message) []byte {
	b := []byte{m.Kind}
	switch m.Kind {
	case aRequest, aReply:
		return append(append(b, numbers(m.Client, m.ID)...), counted(m.Body)...)
	case anAppend:
		b = append(b, numbers(m.Upto, m.From, len(m.Entries))...)
		for _, e := range m.Entries {
			b = append(b, entryForm(e)[8:]...)
		}
		return b
	case aHave:
		return append(b, numbers(m.Have, m.Done)...)
	case aConfig:
		return append(b, configForm(m.Config)...)
	case aWhole:
		return append(b, numbers(m.Since)...)
	}
	return append(b, laid(m)...)
}

// laid tells all fields of a message as bytes, each with its length: messages are the same if these are.
func laid(m api.Message) []byte {
	b := append([]byte{m.Kind}, numbers(m.Client, m.ID, m.Upto, m.From, m.Have, m.Done, m.Since, len(m.Entries))...)
	b = append(b, counted(m.Body)...)
	for _, e := range m.Entries {
		b = append(b, entryForm(e)...)
	}
	return append(b, configForm(m.Config)...)
}

// same, sameEntry, sameConfig tell whether they are the same: lists that are nil as empty ones.
func same(a, b api.Message) bool      { return bytes.Equal(laid(a), laid(b)) }
func sameEntry(a, b api.Entry) bool   { return bytes.Equal(entryForm(a), entryForm(b)) }
func sameConfig(a, b api.Config) bool { return bytes.Equal(configForm(a), configForm(b)) }

// cursor reads bytes, and tells by a panic that there are too few; the panic is caught by read.
type cursor struct{ rest []byte }

type tooFew struct{}

func (c *cursor) take(n int) []byte {
	if n > len(c.rest) {
		panic(tooFew{})
	}
	b := c.rest[:n]
	c.rest = c.rest[n:]
	return b
}

func (c *cursor) number() int   { return int(binary.BigEndian.Uint64(c.take(8))) }
func (c *cursor) bytes() []byte { return c.take(int(binary.BigEndian.Uint32(c.take(4)))) }

func (c *cursor) flag() bool {
	b := c.take(1)[0]
	if b > 1 {
		panic(tooFew{})
	}
	return b == 1
}

func (c *cursor) count(most int) int {
	n := c.number()
	if n < 0 || n > most {
		panic(tooFew{})
	}
	return n
}

func (c *cursor) entry(pos int) api.Entry {
	e := api.Entry{Pos: pos}
	e.Stamp = c.number()
	e.Client = c.number()
	e.ID = c.number()
	e.Body = c.bytes()
	return e
}

func (c *cursor) config() api.Config {
	var x api.Config
	x.Epoch = c.number()
	for range c.count(nodes) {
		var m api.Member
		m.Node = c.number()
		m.Since = c.number()
		m.Whole = c.flag()
		x.Members = append(x.Members, m)
	}
	return x
}

func (c *cursor) message() api.Message {
	m := api.Message{Kind: c.take(1)[0]}
	switch m.Kind {
	case aRequest, aReply:
		m.Client = c.number()
		m.ID = c.number()
		m.Body = c.bytes()
	case anAppend:
		m.Upto = c.number()
		m.From = c.number()
		for i := range c.count(batch) {
			m.Entries = append(m.Entries, c.entry(m.From+i))
		}
	case aHave:
		m.Have = c.number()
		m.Done = c.number()
	case aConfig:
		m.Config = c.config()
	case aWhole:
		m.Since = c.number()
	}
	return m
}

// read tells what is read from the beginning of bytes, and what is left; false, if it isn't there.
func read[T any](b []byte, what func(c *cursor) T) (x T, rest []byte, ok bool) {
	if len(b) > most {
		return x, nil, false
	}
	defer func() {
		if _, is := recover().(tooFew); is {
			var none T
			x, rest, ok = none, nil, false
		}
	}()
	c := &cursor{b}
	x = what(c)
	return x, c.rest, true
}

// modelParse tells what Parse must.
func modelParse(b []byte) (api.Message, api.Errno) {
	m, rest, ok := read(b, (*cursor).message)
	if !ok || len(rest) > 0 || !mayBe(m) {
		return api.Message{}, notOne
	}
	return m, api.OK
}

// prints holds what May and Print tell of a message; of one that may be, what Parse reads of it.
func prints(t *testing.T, m api.Message) bool {
	t.Helper()
	if err := printsLike(m); err != nil {
		t.Fatal(err)
	}
	return mayBe(m)
}

// printsLike tells how they are unlike what they must be.
func printsLike(m api.Message) error {
	may := mayBe(m)
	if May(m) != may {
		return fmt.Errorf("May of %.300v: %v", m, !may)
	}
	b, e := Print(m)
	if !may {
		if b != nil || e != wrong {
			return fmt.Errorf("Print of %.300v: %d bytes, error %d", m, len(b), e)
		}
		return parsesLike(formOf(m))
	}
	if e != api.OK || !bytes.Equal(b, formOf(m)) {
		return fmt.Errorf("Print of %.300v: %.300v, error %d", m, b, e)
	}
	if back, e := Parse(b); e != api.OK || !same(back, m) {
		return fmt.Errorf("Parse of the form of %.300v: %.300v, error %d", m, back, e)
	}
	return nil
}

// parses holds what Parse tells of bytes, and that what it reads has that form.
func parses(t *testing.T, b []byte) api.Errno {
	t.Helper()
	if err := parsesLike(b); err != nil {
		t.Fatal(err)
	}
	_, e := modelParse(b)
	return e
}

// parsesLike tells how it is unlike what it must be.
func parsesLike(b []byte) error {
	want, is := modelParse(b)
	m, e := Parse(b)
	if e != is || !same(m, want) || e != api.OK && (m.Body != nil || m.Entries != nil || m.Config.Members != nil) {
		return fmt.Errorf("Parse of %.300v: %.300v, error %d, not %.300v, error %d", b, m, e, want, is)
	}
	if e != api.OK {
		return nil
	}
	if again, e := Print(m); e != api.OK || !bytes.Equal(again, b) || !May(m) {
		return fmt.Errorf("%.300v, read and printed: %.300v, error %d", b, again, e)
	}
	return nil
}

// takes holds what TakeEntry or TakeConfig reads of bytes behind a first number, and what is left behind it. Of a reader that is bad nothing is told.
func takes[T any](t *testing.T, b []byte, take func(r *wire.Reader) T, what func(c *cursor) T, alike func(a, b T) bool) bool {
	t.Helper()
	r := wire.NewReader(append(numbers(7), b...))
	if r.Int() != 7 {
		t.Fatal("the first number")
	}
	want, rest, ok := read(b, what)
	x := take(r)
	if !alike(x, want) || r.Left() != len(rest) || ok != (r.Err() == api.OK) {
		t.Fatalf("of %.300v: %.300v, not %.300v; %d left, not %d; error %d", b, x, want, r.Left(), len(rest), r.Err())
	}
	if again := take(r); !ok && !alike(again, want) {
		t.Fatalf("of %.300v, again: %.300v", b, again)
	}
	return ok
}

func takesEntry(t *testing.T, b []byte) bool {
	t.Helper()
	return takes(t, b, TakeEntry, func(c *cursor) api.Entry { return c.entry(c.number()) }, sameEntry)
}

func takesConfig(t *testing.T, b []byte) bool {
	t.Helper()
	return takes(t, b, TakeConfig, (*cursor).config, sameConfig)
}

// edges tells numbers at which something may end.
func edges() []int {
	l := []int{math.MinInt, math.MinInt + 1, math.MinInt32, -1 << 32, -256, -2, -1, 0, 1, 2, 3, 4, 5, 6, 7, 8, 9, 10, 127, 128, 255, 256, 257, 260, 1023, 1024, 1025, 19999, 20000, 20001}
	for _, n := range []int{1 << 16, 1 << 31, 1 << 32, 1 << 40} {
		l = append(l, n-1, n, n+1)
	}
	return append(l, math.MaxInt-4, math.MaxInt-3, math.MaxInt-2, math.MaxInt-1, math.MaxInt)
}

// few tells fewer of them.
func few() []int { return []int{math.MinInt, -1, 0, 1, 2, 3, 4, 5, 1 << 32, math.MaxInt} }

// some tells so many bytes, all kinds of them, that aren't the same from one place to the next.
func some(n int) []byte {
	b := make([]byte, n)
	for i := range b {
		b[i] = byte(i*37 + 255)
	}
	return b
}

// entriesFrom tells so many entries that may be, each one otherwise.
func entriesFrom(from, n int) []api.Entry {
	var l []api.Entry
	for i := range n {
		l = append(l, api.Entry{Pos: from + i, Stamp: 100 - i, Client: i % clients, ID: 1 + i*i, Body: some(5 + i)})
	}
	return l
}

// membersOf tells so many members that may be in the epoch 9 or behind it, each one otherwise.
func membersOf(n int) []api.Member {
	var l []api.Member
	for i := range n {
		l = append(l, api.Member{Node: (i*2 + 4) % nodes, Since: 9 - i, Whole: i%3 != 1})
	}
	return l
}

// examples tells messages that may be, of each Kind some, among them the least.
func examples() []api.Message {
	l := []api.Message{
		{Kind: aHave}, {Kind: aHave, Have: 2, Done: 1}, {Kind: aHave, Have: 3, Done: 3}, {Kind: aHave, Have: math.MaxInt, Done: math.MaxInt},
		{Kind: aWhole, Since: 1}, {Kind: aWhole, Since: math.MaxInt}, {Kind: aWhole, Since: 0x0102030405060708},
		{Kind: anAppend, From: 1}, {Kind: anAppend, Upto: math.MaxInt, From: math.MaxInt}, {Kind: anAppend, From: 3, Entries: []api.Entry{{Pos: 3, ID: 1}}},
		{Kind: aConfig, Config: api.Config{Epoch: 1}}, {Kind: aConfig, Config: api.Config{Epoch: math.MaxInt, Members: []api.Member{{Node: 3, Since: math.MaxInt}}}},
	}
	for _, k := range []uint8{aRequest, aReply} {
		l = append(l, api.Message{Kind: k, ID: 1}, api.Message{Kind: k, Client: 3, ID: math.MaxInt, Body: some(9)}, api.Message{Kind: k, Client: 1, ID: 2, Body: []byte{0}})
	}
	for n := range batch {
		l = append(l, api.Message{Kind: anAppend, Upto: 6 - n, From: 5, Entries: entriesFrom(5, n+1)})
	}
	for n := range nodes {
		l = append(l, api.Message{Kind: aConfig, Config: api.Config{Epoch: 9 + n, Members: membersOf(n + 1)}})
	}
	return l
}

// number tells a number that may be an id, an epoch.
func number(c *rand.Rand) int {
	switch c.Intn(4) {
	case 0:
		return 1
	case 1:
		return math.MaxInt - c.Intn(5)
	}
	return 1 + c.Intn(1<<c.Intn(63))
}

// junk tells bytes by chance, at most so many, often none or as many.
func junk(c *rand.Rand, n int) []byte {
	b := make([]byte, []int{0, c.Intn(n + 1), c.Intn(n + 1), n}[c.Intn(4)])
	c.Read(b)
	return b
}

// entryBy, configBy, chance tell ones by chance that may be.
func entryBy(c *rand.Rand, pos int) api.Entry {
	return api.Entry{Pos: pos, Stamp: number(c) - 1, Client: c.Intn(clients), ID: number(c), Body: junk(c, []int{0, 3, 40, asked}[c.Intn(4)])}
}

func configBy(c *rand.Rand) api.Config {
	x := api.Config{Epoch: number(c)}
	for _, n := range c.Perm(nodes)[:c.Intn(nodes+1)] {
		x.Members = append(x.Members, api.Member{Node: n, Since: []int{1, x.Epoch, 1 + c.Intn(x.Epoch)}[c.Intn(3)], Whole: c.Intn(2) > 0})
	}
	return x
}

func chance(c *rand.Rand) api.Message {
	m := api.Message{Kind: kindsAll[c.Intn(len(kindsAll))]}
	switch m.Kind {
	case aRequest, aReply:
		m.Client, m.ID, m.Body = c.Intn(clients), number(c), junk(c, []int{0, 3, 40, said}[c.Intn(4)])
	case anAppend:
		m.Upto = number(c) - 1
		n := c.Intn(batch + 1)
		m.From = min(number(c), math.MaxInt-max(n-1, 0))
		for i := range n {
			m.Entries = append(m.Entries, entryBy(c, m.From+i))
		}
	case aHave:
		m.Have = number(c) - 1
		m.Done = []int{0, m.Have, m.Have / 2}[c.Intn(3)]
	case aConfig:
		m.Config = configBy(c)
	case aWhole:
		m.Since = number(c)
	}
	return m
}

// changes tells a message with each of its fields otherwise, each time one of them.
func changes(m api.Message, l []int) []api.Message {
	var all []api.Message
	change := func(do func(n *api.Message)) {
		n := clone(m)
		if do(&n); !same(m, n) {
			all = append(all, n)
		}
	}
	for _, x := range l {
		change(func(n *api.Message) { n.Client = x })
		change(func(n *api.Message) { n.ID = x })
		change(func(n *api.Message) { n.Upto = x })
		change(func(n *api.Message) { n.From = x })
		change(func(n *api.Message) { n.Have = x })
		change(func(n *api.Message) { n.Done = x })
		change(func(n *api.Message) { n.Since = x })
		change(func(n *api.Message) { n.Config.Epoch = x })
		for i := range m.Entries {
			change(func(n *api.Message) { n.Entries[i].Pos = x })
			change(func(n *api.Message) { n.Entries[i].Stamp = x })
			change(func(n *api.Message) { n.Entries[i].Client = x })
			change(func(n *api.Message) { n.Entries[i].ID = x })
		}
		for i := range m.Config.Members {
			change(func(n *api.Message) { n.Config.Members[i].Node = x })
			change(func(n *api.Message) { n.Config.Members[i].Since = x })
		}
	}
	for _, b := range [][]byte{nil, {0}, some(asked), some(asked + 1), some(said), some(said + 1)} {
		change(func(n *api.Message) { n.Body = b })
		for i := range m.Entries {
			change(func(n *api.Message) { n.Entries[i].Body = b })
		}
	}
	for i := range m.Entries {
		change(func(n *api.Message) { n.Entries = slices.Delete(n.Entries, i, i+1) })
		change(func(n *api.Message) { n.Entries = slices.Insert(n.Entries, i, n.Entries[i]) })
		change(func(n *api.Message) { n.Entries = n.Entries[:i] })
		change(func(n *api.Message) { n.Entries[0], n.Entries[i] = n.Entries[i], n.Entries[0] })
	}
	for i := range m.Config.Members {
		change(func(n *api.Message) { n.Config.Members = slices.Delete(n.Config.Members, i, i+1) })
		change(func(n *api.Message) { n.Config.Members = slices.Insert(n.Config.Members, i, n.Config.Members[i]) })
		change(func(n *api.Message) { n.Config.Members[i].Whole = !n.Config.Members[i].Whole })
		change(func(n *api.Message) {
			n.Config.Members[0], n.Config.Members[i] = n.Config.Members[i], n.Config.Members[0]
		})
	}
	change(func(n *api.Message) { n.Entries = append(n.Entries, api.Entry{}) })
	change(func(n *api.Message) { n.Entries = append(n.Entries, api.Entry{Pos: n.From + len(n.Entries), ID: 1}) })
	change(func(n *api.Message) { n.Config.Members = append(n.Config.Members, api.Member{}) })
	change(func(n *api.Message) { n.Config.Members = append(n.Config.Members, api.Member{Since: 1}) })
	return all
}

// clone tells a message of new memory.
func clone(m api.Message) api.Message {
	m.Body = slices.Clone(m.Body)
	m.Entries = slices.Clone(m.Entries)
	for i := range m.Entries {
		m.Entries[i].Body = slices.Clone(m.Entries[i].Body)
	}
	m.Config.Members = slices.Clone(m.Config.Members)
	return m
}

// spoil writes over bytes and all the room behind them.
func spoil(b []byte) {
	b = b[:cap(b)]
	for i := range b {
		b[i] = ^b[i]
	}
}

// spoilAll writes over all lists of a message, and all the room behind them.
func spoilAll(m api.Message) {
	spoil(m.Body)
	for i := range m.Entries[:cap(m.Entries)] {
		e := &m.Entries[:cap(m.Entries)][i]
		spoil(e.Body)
		*e = api.Entry{Pos: -e.Pos, Stamp: -e.Stamp, Client: 77, ID: -e.ID, Body: []byte("spoilt")}
	}
	spoilMembers(m.Config.Members)
}

// spoilMembers writes over members, and all the room behind them.
func spoilMembers(l []api.Member) {
	l = l[:cap(l)]
	for i := range l {
		l[i] = api.Member{Node: -l[i].Node, Since: 77, Whole: !l[i].Whole}
	}
}

// roomy tells a list with room behind it, and what both are together.
func roomy[T any](l []T, fill T) (list, whole []T) {
	whole = append(make([]T, 0, len(l)+20), l...)
	for range 20 {
		whole = append(whole, fill)
	}
	return whole[:len(l)], whole
}
