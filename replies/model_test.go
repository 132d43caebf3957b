package replies

import (
	"encoding/hex"
	"math"
	"math/rand"
	"slices"
	"strconv"
	"strings"

	"seneschal/api"
)

// The chapter's numbers, written out.
const (
	clients = 4
	lastID  = 1 << 40
)

// one tells what a client was told last, with a reply that tells which one it is.
func one(client, id int) Last {
	return Last{Client: client, ID: id, Reply: marked(client*100 + id%100)}
}

// of tells what clients were told last, clients and ids in turn.
func of(numbers ...int) []Last {
	var l []Last
	for i := 0; i+1 < len(numbers); i += 2 {
		l = append(l, one(numbers[i], numbers[i+1]))
	}
	return l
}

// marked tells a reply in which all that a reply has tells that number.
func marked(n int) api.Reply {
	text := strconv.Itoa(n)
	return api.Reply{
		Err: api.Errno(n), Value: "v" + text, Keys: []string{"k" + text, "l" + text}, N: n,
		Link: api.Link{N: n, Stamp: n + 1, Op: uint8(n), Tenant: n, A: n, B: n, C: n, Ahead: api.Tag{byte(n)}, Self: api.Tag{31: byte(n)}},
	}
}

// text tells all that a reply has, as a text: of keys that are nil the same as of none.
func text(r api.Reply) string {
	b := strconv.AppendQuote(strconv.AppendInt(nil, int64(r.Err), 10), r.Value)
	for _, key := range r.Keys {
		b = strconv.AppendQuote(append(b, ' '), key)
	}
	for _, n := range []int{r.N, r.Link.N, r.Link.Stamp, int(r.Link.Op), r.Link.Tenant, r.Link.A, r.Link.B, r.Link.C} {
		b = strconv.AppendInt(append(b, ' '), int64(n), 10)
	}
	return string(hex.AppendEncode(hex.AppendEncode(append(b, ' '), r.Link.Ahead[:]), r.Link.Self[:]))
}

// texts tells all that a list has, as a text.
func texts(l []Last) string {
	var s strings.Builder
	for _, x := range l {
		s.WriteString(strconv.Itoa(x.Client) + " " + strconv.Itoa(x.ID) + " " + text(x.Reply) + "\n")
	}
	return s.String()
}

// deep tells a list that shares nothing with that one.
func deep(l []Last) []Last {
	var m []Last
	for _, x := range l {
		x.Reply.Keys = append([]string{}, x.Reply.Keys...)
		m = append(m, x)
	}
	return m
}

// table is a table as an array: what each client was told last; id 0, if nothing.
type table [clients]struct {
	id    int
	reply api.Reply
}

// laid tells it as a list.
func (p table) laid() []Last {
	var l []Last
	for client, x := range p {
		if x.id > 0 {
			l = append(l, Last{client, x.id, x.reply})
		}
	}
	return l
}

// may tells whether there may be that client and that id, as the chapter's words have it.
func may(client, id int) bool {
	return !(client < 0 || client > clients-1 || id < 1 || id > lastID)
}

// asTable tells a list as an array; false of what is no table: of what isn't as that array is laid.
func asTable(l []Last) (table, bool) {
	var p table
	for _, x := range l {
		if !may(x.Client, x.ID) {
			return table{}, false
		}
		p[x.Client].id, p[x.Client].reply = x.ID, x.Reply
	}
	if texts(p.laid()) != texts(l) {
		return table{}, false
	}
	return p, len(p.laid()) == len(l)
}

// The calls of the chapter over such arrays.
func modelAsk(l []Last, client, id int) (api.Reply, bool, api.Errno) {
	p, is := asTable(l)
	if !is || !may(client, id) {
		return api.Reply{}, false, 2
	}
	if p[client].id > id {
		return api.Reply{}, false, 140
	}
	if p[client].id != id {
		return api.Reply{}, false, 0
	}
	return p[client].reply, true, 0
}

func modelNote(l []Last, client, id int, r api.Reply) ([]Last, api.Errno) {
	p, is := asTable(l)
	if !is || !may(client, id) {
		return nil, 2
	}
	if !(id > p[client].id) {
		return nil, 140
	}
	p[client].id, p[client].reply = id, r
	return p.laid(), 0
}

func modelOf(l []Last, client int) int {
	for len(l) > 0 {
		if l[0].Client == client {
			return l[0].ID
		}
		l = l[1:]
	}
	return 0
}

// ends tells numbers at the edges of limits, and at the ends of what an int holds.
func ends() []int {
	return []int{math.MinInt, math.MinInt + 1, -lastID, math.MinInt32, -2, -1, 0, 1, 2, clients - 2, clients - 1, clients, clients + 1, math.MaxInt32, 1<<32 + 1, lastID - 1, lastID, lastID + 1, math.MaxInt - 1, math.MaxInt}
}

// someID tells an id by chance: often a small one, at times the last there is.
func someID(c *rand.Rand) int {
	switch c.Intn(6) {
	case 0:
		return lastID - c.Intn(2)
	case 1:
		return 1 + c.Intn(lastID)
	}
	return 1 + c.Intn(6)
}

// someReply tells a reply by chance, of few different ones, with room behind its keys at times.
func someReply(c *rand.Rand) api.Reply {
	r := marked(c.Intn(3))
	r.Keys = slices.Grow(r.Keys, c.Intn(4))
	switch c.Intn(4) {
	case 0:
		r.Keys = nil
	case 1:
		r.Keys = r.Keys[:0]
	case 2:
		r.Keys = r.Keys[1:]
	}
	return r
}

// some tells a table by chance.
func some(c *rand.Rand) []Last {
	var p table
	for client := range clients {
		if c.Intn(3) > 0 {
			p[client].id, p[client].reply = someID(c), someReply(c)
		}
	}
	return p.laid()
}

// wild tells by chance what a client, that perhaps may not be, was told.
func wild(c *rand.Rand) Last {
	n, x := ends()[c.Intn(len(ends()))], Last{c.Intn(clients), someID(c), someReply(c)}
	switch c.Intn(4) {
	case 0:
		x.Client = n
	case 1:
		x.ID = n
	}
	return x
}

// perhaps tells a table by chance, or a list in which something is otherwise.
func perhaps(c *rand.Rand) []Last {
	l := some(c)
	at := c.Intn(len(l) + 1)
	switch c.Intn(8) {
	case 0:
		l = slices.Insert(l, at, wild(c))
	case 1:
		if at < len(l) {
			l[at] = wild(c)
		}
	case 2:
		slices.Reverse(l)
	case 3:
		if at < len(l) {
			l = slices.Insert(l, at, l[at])
		}
	}
	return l
}
