package request

import (
	"bytes"
	"encoding/binary"
	"encoding/hex"
	"math"
	"math/rand"
	"slices"
	"strconv"
	"strings"

	"seneschal/api"
)

// The chapter's numbers, written out: how many fields a request has beside its Op, Ops, and bytes a request's form may have.
const (
	fields  = 11
	ops     = 10
	longest = 1024
	clock   = 1 << 40
)

// The fields' places: of texts and bytes it is their length that counts.
const (
	atToken = iota
	atKey
	atValue
	atOld
	atN
	atTenant
	atKeys
	atSpace
	atRights
	atExpiry
	atSerial
)

// names are the fields' names.
var names = [fields]string{"Token", "Key", "Value", "Old", "N", "Tenant", "Keys", "Space", "Rights", "Expiry", "Serial"}

// span is from which number to which one a field may be.
type span struct{ least, most int }

// spans tells the chapter's table: of each field of an Op what it may be; 0 to 0, where the table says nothing.
func spans(op uint8) [fields]span {
	l := [fields]span{atToken: {0, 256}}
	switch op {
	case 1, 4: // OpGet, OpDel
		l[atKey] = span{1, 24}
	case 2: // OpPut
		l[atKey], l[atValue] = span{1, 24}, span{0, 64}
	case 3: // OpSwap
		l[atKey], l[atValue], l[atOld] = span{1, 24}, span{0, 64}, span{0, 64}
	case 5: // OpList
		l[atKey], l[atN] = span{0, 24}, span{1, 16}
	case 6, 7: // OpCreate, OpResize
		l[atTenant], l[atKeys], l[atSpace] = span{1, 8}, span{0, 65536}, span{0, 65536}
	case 8: // OpGrant
		l[atTenant], l[atRights], l[atExpiry] = span{0, 8}, span{1, 15}, span{0, clock}
	case 9: // OpRevoke
		l[atTenant], l[atN] = span{0, 8}, span{0, 65536}
	case 10: // OpAudit
		l[atN] = span{0, 65536}
	}
	return l
}

// sizes tells a request's fields as numbers.
func sizes(r api.Request) [fields]int {
	return [fields]int{len(r.Token), len(r.Key), len(r.Value), len(r.Old), r.N, r.Tenant, r.Keys, r.Space, int(r.Grant.Rights), r.Grant.Expiry, r.Grant.Serial}
}

// ofSizes tells a request of that Op with these fields: texts of bytes that tell which field they are, and where.
func ofSizes(op uint8, l [fields]int) api.Request {
	return api.Request{
		Op: op, Token: some(l[atToken]), Key: string(some(l[atKey] + 1)[1:]), Value: string(some(l[atValue] + 2)[2:]), Old: string(some(l[atOld] + 3)[3:]),
		N: l[atN], Tenant: l[atTenant], Keys: l[atKeys], Space: l[atSpace],
		Grant: api.Grant{Rights: uint8(l[atRights]), Expiry: l[atExpiry], Serial: l[atSerial]},
	}
}

// mayBe tells whether a request may be, as the chapter's table has it.
func mayBe(r api.Request) bool {
	l := sizes(r)
	for i, s := range spans(r.Op) {
		if l[i] < s.least || l[i] > s.most {
			return false
		}
	}
	return slices.Contains([]uint8{1, 2, 3, 4, 5, 6, 7, 8, 9, 10}, r.Op)
}

// some tells so many bytes, all kinds of them, that aren't the same from one place to the next.
func some(n int) []byte {
	b := make([]byte, n)
	for i := range b {
		b[i] = byte(i*37 + 255)
	}
	return b
}

// number, counted tell the forms of a number, and of bytes.
func number(n int) []byte { return binary.BigEndian.AppendUint64(nil, uint64(n)) }

func counted(s string) []byte {
	return append(binary.BigEndian.AppendUint32(nil, uint32(len(s))), s...)
}

// formOf tells a request's form, whether the request may be or not.
func formOf(r api.Request) []byte {
	b := append([]byte{r.Op}, counted(string(r.Token))...)
	for _, s := range []string{r.Key, r.Value, r.Old} {
		b = append(b, counted(s)...)
	}
	for _, n := range []int{r.N, r.Tenant, r.Keys, r.Space} {
		b = append(b, number(n)...)
	}
	b = append(b, r.Grant.Rights)
	return append(append(b, number(r.Grant.Expiry)...), number(r.Grant.Serial)...)
}

// replyForm tells a reply's form, whether the reply may be or not.
func replyForm(r api.Reply) []byte {
	b := append(number(int(r.Err)), counted(r.Value)...)
	b = append(b, number(len(r.Keys))...)
	for _, k := range r.Keys {
		b = append(b, counted(k)...)
	}
	l := r.Link
	b = append(append(append(b, number(r.N)...), number(l.N)...), number(l.Stamp)...)
	b = append(b, l.Op)
	for _, n := range []int{l.Tenant, l.A, l.B, l.C} {
		b = append(b, number(n)...)
	}
	return append(append(b, l.Ahead[:]...), l.Self[:]...)
}

// replyMay tells whether a reply may be, as the chapter's words have it.
func replyMay(r api.Reply) bool {
	most := len(r.Value)
	for _, k := range r.Keys {
		most = max(most, len(k))
	}
	return !(most > 512 || len(r.Keys) > 16)
}

// cut tells so many bytes, and what is behind them; false, unless there are as many.
func cut(b []byte, n int) (ahead, behind []byte, ok bool) {
	if n < 0 || n > len(b) {
		return nil, nil, false
	}
	return b[:n], b[n:], true
}

// look reads a form of fields that a text tells: `b` a byte, `n` a number, `s` a text. What it tells is the numbers, the texts, and what is left.
func look(b []byte, what string) (numbers []int, texts []string, rest []byte, ok bool) {
	for _, kind := range what {
		size := map[rune]int{'b': 1, 'n': 8, 's': 4}[kind]
		x, behind, ok := cut(b, size)
		if !ok {
			return nil, nil, nil, false
		}
		n := 0
		for _, one := range x {
			n = n<<8 | int(one)
		}
		b = behind
		if kind != 's' {
			numbers = append(numbers, n)
			continue
		}
		if x, behind, ok = cut(b, n); !ok {
			return nil, nil, nil, false
		}
		texts, b = append(texts, string(x)), behind
	}
	return numbers, texts, b, true
}

// modelParse tells what Parse must tell, by reading the bytes field by field.
func modelParse(b []byte) (api.Request, api.Errno) {
	if len(b) > longest {
		return api.Request{}, 3
	}
	n, s, rest, ok := look(b, "bssss"+"nnnn"+"bnn")
	if !ok || len(rest) > 0 {
		return api.Request{}, 150
	}
	r := api.Request{
		Op: uint8(n[0]), Token: []byte(s[0]), Key: s[1], Value: s[2], Old: s[3], N: n[1], Tenant: n[2], Keys: n[3], Space: n[4],
		Grant: api.Grant{Rights: uint8(n[5]), Expiry: n[6], Serial: n[7]},
	}
	if !mayBe(r) {
		return api.Request{}, 150
	}
	return r, 0
}

// modelParseReply tells what ParseReply must tell, likewise.
func modelParseReply(b []byte) (api.Reply, api.Errno) {
	n, s, b, ok := look(b, "nsn")
	if !ok || n[1] < 0 || n[1] > 16 {
		return api.Reply{}, 150
	}
	_, keys, b, ok := look(b, strings.Repeat("s", n[1]))
	if !ok {
		return api.Reply{}, 150
	}
	m, _, b, ok := look(b, "nnnb"+"nnnn")
	if !ok || len(b) != 64 {
		return api.Reply{}, 150
	}
	r := api.Reply{Err: api.Errno(n[0]), Value: s[0], Keys: keys, N: m[0], Link: api.Link{
		N: m[1], Stamp: m[2], Op: uint8(m[3]), Tenant: m[4], A: m[5], B: m[6], C: m[7], Ahead: api.Tag(b[:32]), Self: api.Tag(b[32:]),
	}}
	if !replyMay(r) {
		return api.Reply{}, 150
	}
	return r, 0
}

// sameRequest, sameReply tell whether they are the same, in all: lists that are nil the same as empty ones.
func sameRequest(a, b api.Request) bool {
	return sizes(a) == sizes(b) && a.Op == b.Op && bytes.Equal(a.Token, b.Token) && a.Key == b.Key && a.Value == b.Value && a.Old == b.Old
}

func sameReply(a, b api.Reply) bool {
	return a.Err == b.Err && a.Value == b.Value && slices.Equal(a.Keys, b.Keys) && a.N == b.N && a.Link == b.Link
}

// text, replyText tell them as texts, for what a test tells of them.
func text(r api.Request) string {
	s := "op " + strconv.Itoa(int(r.Op))
	for i, n := range sizes(r) {
		if n != 0 {
			s += ", " + names[i] + " " + strconv.Itoa(n)
		}
	}
	return s
}

func replyText(r api.Reply) string {
	s := "error " + strconv.Itoa(int(r.Err)) + ", value of " + strconv.Itoa(len(r.Value)) + ", n " + strconv.Itoa(r.N) + ", keys of"
	for _, k := range r.Keys {
		s += " " + strconv.Itoa(len(k))
	}
	return s + ", link " + hex.EncodeToString(replyForm(api.Reply{Link: r.Link}))
}

// ends are numbers at which something may end.
func ends() []int {
	l := []int{math.MinInt, math.MinInt + 1, -1 << 40, -1 << 32, -256, -2, -1, 0, 1, 2, 3, 7, 8, 9, 14, 15, 16, 17, 23, 24, 25, 63, 64, 65, 66, 127, 128, 255, 256, 257}
	for _, n := range []int{512, 1024, 4096, 1 << 15, 1 << 16, 1 << 31, 1 << 32, 1 << 40, 1 << 41} {
		l = append(l, n-1, n, n+1)
	}
	return append(l, math.MaxInt-1, math.MaxInt)
}

// lens are lengths at which a text's, a token's may end.
func lens() []int {
	return []int{0, 1, 2, 15, 16, 17, 23, 24, 25, 26, 63, 64, 65, 66, 96, 128, 254, 255, 256, 257, 258, 300, 512, 513}
}

// ofField tells what is tried of a field: lengths, where it has one; rights up to 255.
func ofField(at int) []int {
	switch {
	case at < atN:
		return lens()
	case at == atRights:
		return []int{0, 1, 2, 3, 4, 7, 8, 9, 14, 15, 16, 17, 31, 32, 64, 127, 128, 240, 254, 255}
	}
	return ends()
}

// any tells any number of a span, mostly one of its ends.
func (s span) any(c *rand.Rand) int {
	switch c.Intn(4) {
	case 0:
		return s.least
	case 1:
		return s.most
	}
	return s.least + c.Intn(s.most-s.least+1)
}

// chance tells any request that may be, of any bytes.
func chance(c *rand.Rand) api.Request {
	op := uint8(1 + c.Intn(ops))
	var l [fields]int
	for i, s := range spans(op) {
		l[i] = s.any(c)
	}
	r := ofSizes(op, l)
	c.Read(r.Token)
	for _, s := range []*string{&r.Key, &r.Value, &r.Old} {
		b := []byte(*s)
		c.Read(b)
		*s = string(b)
	}
	return r
}

// wild tells any request, mostly one that may not be.
func wild(c *rand.Rand) api.Request {
	r := chance(c)
	l := sizes(r)
	for range 1 + c.Intn(3) {
		at := c.Intn(fields)
		l[at] = ofField(at)[c.Intn(len(ofField(at)))]
	}
	return ofSizes(uint8(c.Intn(13)), l)
}

// least tells the least request of an Op that may be.
func least(op uint8) api.Request {
	var l [fields]int
	for i, s := range spans(op) {
		l[i] = s.least
	}
	return ofSizes(op, l)
}

// most tells the greatest one.
func most(op uint8) api.Request {
	var l [fields]int
	for i, s := range spans(op) {
		l[i] = s.most
	}
	return ofSizes(op, l)
}

// whole tells a reply in which each field is another one, with so many keys.
func whole(keys int) api.Reply {
	r := api.Reply{
		Err: 0x0102030405060708, Value: "value", N: -2,
		Link: api.Link{N: 3, Stamp: 4 << 40, Op: 5, Tenant: -6, A: 7, B: 8, C: 9, Ahead: api.Tag(some(32)), Self: api.Tag(some(64)[32:])},
	}
	for i := range keys {
		r.Keys = append(r.Keys, string(some(3 + i)[3:]))
	}
	return r
}

// replyChance tells any reply that may be.
func replyChance(c *rand.Rand) api.Reply {
	size := func() int { return span{0, []int{3, 24, 512}[c.Intn(3)]}.any(c) }
	end := func() int { return ends()[c.Intn(len(ends()))] }
	r := api.Reply{Err: api.Errno(end()), Value: string(some(size())), N: end()}
	for range (span{0, 16}).any(c) {
		b := make([]byte, size())
		c.Read(b)
		r.Keys = append(r.Keys, string(b))
	}
	r.Link = api.Link{N: end(), Stamp: end(), Op: uint8(c.Intn(256)), Tenant: end(), A: end(), B: end(), C: end()}
	c.Read(r.Link.Ahead[:])
	c.Read(r.Link.Self[:])
	return r
}
