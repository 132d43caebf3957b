package replies

import (
	"math"
	"math/rand"
	"slices"
	"testing"

	"seneschal/api"
)

// asks holds what Ask tells.
func asks(t *testing.T, l []Last, client, id int, want api.Reply, known bool, e api.Errno) {
	t.Helper()
	r, k, f := Ask(l, client, id)
	if text(r) != text(want) || k != known || f != e {
		t.Fatalf("Ask %d, %d of\n%s%s, %v, error %d; not %s, %v, error %d", client, id, texts(l), text(r), k, f, text(want), known, e)
	}
}

// isNew holds that Ask tells nothing, and no error.
func isNew(t *testing.T, l []Last, client, id int) {
	t.Helper()
	asks(t, l, client, id, api.Reply{}, false, api.OK)
}

// refuses holds that Ask tells an error.
func refuses(t *testing.T, l []Last, client, id int, e api.Errno) {
	t.Helper()
	asks(t, l, client, id, api.Reply{}, false, e)
}

// notes holds what Note tells.
func notes(t *testing.T, l []Last, client, id int, r api.Reply, want []Last, e api.Errno) {
	t.Helper()
	m, f := Note(l, client, id, r)
	if texts(m) != texts(want) || f != e {
		t.Fatalf("Note %d, %d, %s to\n%s%serror %d; not\n%serror %d", client, id, text(r), texts(l), texts(m), f, texts(want), e)
	}
}

// has holds what Of tells.
func has(t *testing.T, l []Last, client, want int) {
	t.Helper()
	if id := Of(l, client); id != want {
		t.Fatalf("Of %d of\n%s%d, not %d", client, texts(l), id, want)
	}
}

// holds holds what all calls tell against the model's.
func holds(t *testing.T, l []Last, x Last) {
	t.Helper()
	if _, is := asTable(l); May(l) != is {
		t.Fatalf("May of\n%s%v", texts(l), !is)
	}
	r, known, e := modelAsk(l, x.Client, x.ID)
	asks(t, l, x.Client, x.ID, r, known, e)
	m, e := modelNote(l, x.Client, x.ID, x.Reply)
	notes(t, l, x.Client, x.ID, x.Reply, m, e)
	has(t, l, x.Client, modelOf(l, x.Client))
}

// isNone holds what all calls tell of what is no table: also of clients and ids that may not be.
func isNone(t *testing.T, l []Last) {
	t.Helper()
	if May(l) {
		t.Fatalf("a table:\n%s", texts(l))
	}
	for client := -1; client <= clients; client++ {
		has(t, l, client, modelOf(l, client))
		for _, id := range []int{0, 1, 2, 99, lastID, lastID + 1} {
			refuses(t, l, client, id, api.ErrArg)
			notes(t, l, client, id, marked(1), nil, api.ErrArg)
		}
	}
}

// noted tells the table with one more told.
func noted(t *testing.T, l []Last, client, id int, r api.Reply) []Last {
	t.Helper()
	m, e := Note(l, client, id, r)
	if e != api.OK {
		t.Fatalf("Note %d, %d to\n%serror %d", client, id, texts(l), e)
	}
	return m
}

func TestExamples(t *testing.T) {
	r, q := marked(7), marked(8)
	l := noted(t, nil, 1, 5, r)
	asks(t, l, 1, 5, r, true, api.OK)
	refuses(t, l, 1, 4, api.ErrStale)
	isNew(t, l, 1, 6)
	isNew(t, l, 2, 1)
	notes(t, l, 1, 5, q, nil, api.ErrStale)
	notes(t, l, 5, 1, q, nil, api.ErrArg)
	notes(t, l, 1, 0, q, nil, api.ErrArg)
}

func TestP14_1May(t *testing.T) {
	for _, l := range [][]Last{
		nil, {}, of(0, 1), of(3, 1), of(0, lastID), of(3, lastID), of(0, 1, 1, 1, 2, 1, 3, 1), of(0, 9, 1, 7, 2, 5, 3, 3), of(0, lastID, 3, lastID), of(1, 2, 2, 1), of(0, 1, 2, 1), of(2, 5, 3, 5), {{Client: 1, ID: 1}},
		{{Client: 0, ID: 1, Reply: api.Reply{Err: -1, Value: string(make([]byte, 5000)), Keys: make([]string, 5000), N: math.MinInt}}},
	} {
		if !May(l) {
			t.Errorf("no table:\n%s", texts(l))
		}
	}
	for _, l := range [][]Last{
		of(-1, 1), of(4, 1), of(0, 0), of(0, -1), of(3, lastID+1), of(1, 1, 1, 1), of(1, 1, 1, 2), of(1, 2, 0, 1), of(3, 1, 2, 1), of(0, 1, 2, 1, 1, 1), of(0, 1, 1, 1, 2, 1, 3, 1, 3, 1), of(0, 1, 1, 1, 2, 1, 3, 1, 4, 1),
		of(-1, 1, 0, 1), of(3, 1, 4, 1), of(0, 1, 1, 0), of(0, 0, 1, 1), of(0, 1, 1, 1, 2, lastID+1), of(0, 1, 0, 1, 1, 1), of(2, 1, 3, 1, 0, 1), of(0, 1, 3, 1, 3, 2), make([]Last, 1),
		of(math.MinInt, 1), of(math.MaxInt, 1), of(0, math.MinInt), of(0, math.MaxInt), of(1<<32, 1), of(0, 1<<41), of(0, 1, 1<<32+1, 1),
	} {
		isNone(t, l)
	}
}

// TestP14_1EachEnd holds which clients and ids there may be, in a list as well as handed in.
func TestP14_1EachEnd(t *testing.T) {
	for _, client := range ends() {
		for _, id := range ends() {
			x := one(client, id)
			if May([]Last{x}) != may(client, id) {
				t.Fatalf("%d, %d: May tells %v", client, id, !may(client, id))
			}
			for _, l := range [][]Last{nil, {x}, of(0, 1, 3, 2), of(1, lastID), of(0, lastID, 1, lastID, 2, lastID, 3, lastID), {one(0, 1), x}, {x, one(3, 1)}} {
				holds(t, l, x)
				holds(t, l, one(client, 1))
				holds(t, l, one(1, id))
			}
		}
	}
}

// TestP14_1EachList holds all lists of up to three of few clients and ids, all orders among them.
func TestP14_1EachList(t *testing.T) {
	var lists func(l []Last, n int)
	lists = func(l []Last, n int) {
		for client := -1; client <= clients; client++ {
			for id := range 4 {
				holds(t, l, one(client, id))
			}
			for id := 0; n > 0 && id < 3; id++ {
				lists(append(slices.Clip(l), one(client, id)), n-1)
			}
		}
	}
	lists(nil, 3)
}

// TestP14_1EachTable holds all tables of ids up to three.
func TestP14_1EachTable(t *testing.T) {
	for n := range 256 {
		var l []Last
		for client := range clients {
			if id := n >> (2 * client) & 3; id > 0 {
				l = append(l, one(client, id))
			}
		}
		if !May(l) {
			t.Fatalf("no table:\n%s", texts(l))
		}
		for client := range clients {
			has(t, l, client, n>>(2*client)&3)
			for id := range 6 {
				holds(t, l, Last{client, id, marked(77)})
			}
		}
	}
}

func TestP14_1Of(t *testing.T) {
	l := of(0, 4, 2, lastID, 3, 1)
	has(t, l, 0, 4)
	has(t, l, 2, lastID)
	has(t, l, 3, 1)
	for _, client := range []int{math.MinInt, -1, 1, 4, 5, math.MaxInt} {
		has(t, l, client, 0)
		has(t, nil, client, 0)
	}
	has(t, of(2, 5, 1, 3, 2, 9), 2, 5) // of any list the first one
	has(t, of(2, 5, 1, 3, 2, 9), 1, 3)
	has(t, of(2, 9, 2, 5), 2, 9)
	has(t, of(3, 1, 2, 7, 1, 6, 0, 5), 0, 5)
	has(t, of(2, 0, 2, 5), 2, 0)
	has(t, of(-4, -5, 1, 1), -4, -5)
	has(t, of(9, lastID+7), 9, lastID+7)
	has(t, of(math.MaxInt, math.MinInt, 3, 3), math.MaxInt, math.MinInt)
	has(t, of(math.MinInt, math.MaxInt, 3, 3), 3, 3)
	has(t, slices.Repeat(of(1, 1), 99), 2, 0)
	has(t, append(slices.Repeat(of(1, 1), 99), one(2, 8)), 2, 8)
}

func TestP14_2Ask(t *testing.T) {
	l := of(0, 4, 2, lastID, 3, 1)
	for id := 1; id < 4; id++ {
		refuses(t, l, 0, id, api.ErrStale)
	}
	asks(t, l, 0, 4, one(0, 4).Reply, true, api.OK)
	isNew(t, l, 0, 5)
	isNew(t, l, 0, lastID)
	for _, id := range []int{1, 2, lastID - 1, lastID} {
		isNew(t, l, 1, id)
	}
	refuses(t, l, 2, 1, api.ErrStale)
	refuses(t, l, 2, lastID-1, api.ErrStale)
	asks(t, l, 2, lastID, one(2, lastID).Reply, true, api.OK)
	asks(t, l, 3, 1, one(3, 1).Reply, true, api.OK)
	isNew(t, l, 3, 2)
	for client := range clients {
		isNew(t, nil, client, 1)
		isNew(t, nil, client, lastID)
	}
	asks(t, []Last{{Client: 1, ID: 3}}, 1, 3, api.Reply{}, true, api.OK) // a reply without anything in it is one
}

// TestP14_2EachField holds that all of the reply is told.
func TestP14_2EachField(t *testing.T) {
	for _, r := range each() {
		asks(t, []Last{one(0, 1), {2, 3, r}, one(3, 9)}, 2, 3, r, true, api.OK)
		l := noted(t, of(0, 1, 2, 2, 3, 9), 2, 3, r)
		asks(t, l, 2, 3, r, true, api.OK)
		asks(t, l, 0, 1, one(0, 1).Reply, true, api.OK)
	}
}

// TestP14_2Order holds which error comes first.
func TestP14_2Order(t *testing.T) {
	refuses(t, of(1, 9), 1, 0, api.ErrArg) // ahead of ErrStale
	refuses(t, of(1, 9), 1, -1, api.ErrArg)
	refuses(t, of(1, 9, 1, 9), 1, 8, api.ErrArg)
	refuses(t, of(1, 9, 4, 1), 1, 8, api.ErrArg)
	refuses(t, of(1, 9, 4, 1), 1, 9, api.ErrArg) // ahead of the reply
	refuses(t, of(4, 9), 4, 9, api.ErrArg)
	refuses(t, of(1, lastID+1), 1, lastID+1, api.ErrArg)
	refuses(t, of(1, 0), 1, 0, api.ErrArg)
	refuses(t, nil, 4, 1, api.ErrArg)
	refuses(t, nil, -1, 1, api.ErrArg)
	refuses(t, nil, 0, lastID+1, api.ErrArg)
}

func TestP14_3Note(t *testing.T) {
	r := marked(50)
	l := of(1, 4, 2, 7)
	notes(t, l, 0, 1, r, []Last{{0, 1, r}, one(1, 4), one(2, 7)}, api.OK)
	notes(t, l, 1, 5, r, []Last{{1, 5, r}, one(2, 7)}, api.OK)
	notes(t, l, 2, 8, r, []Last{one(1, 4), {2, 8, r}}, api.OK)
	notes(t, l, 3, 1, r, []Last{one(1, 4), one(2, 7), {3, 1, r}}, api.OK)
	notes(t, l, 2, lastID, r, []Last{one(1, 4), {2, lastID, r}}, api.OK) // ids may be left out
	notes(t, l, 1, 4, r, nil, api.ErrStale)
	notes(t, l, 1, 3, r, nil, api.ErrStale)
	notes(t, l, 2, 7, r, nil, api.ErrStale)
	notes(t, l, 2, 1, r, nil, api.ErrStale)
	notes(t, l, 2, 7, one(2, 7).Reply, nil, api.ErrStale) // also with the reply that it was told
	notes(t, nil, 2, 1, r, []Last{{2, 1, r}}, api.OK)
	notes(t, nil, 2, 1, api.Reply{}, []Last{{Client: 2, ID: 1}}, api.OK)
	notes(t, of(0, 1, 2, 1), 1, 1, r, []Last{one(0, 1), {1, 1, r}, one(2, 1)}, api.OK)
	notes(t, of(0, 1, 1, 1, 2, 1, 3, 1), 2, 2, r, []Last{one(0, 1), one(1, 1), {2, 2, r}, one(3, 1)}, api.OK)
	notes(t, of(0, 1, 1, 1, 2, 1, 3, 1), 3, 2, r, []Last{one(0, 1), one(1, 1), one(2, 1), {3, 2, r}}, api.OK)
	notes(t, of(0, 1, 1, 1, 2, 1, 3, 1), 0, 2, r, []Last{{0, 2, r}, one(1, 1), one(2, 1), one(3, 1)}, api.OK)
	notes(t, of(3, lastID), 3, lastID, r, nil, api.ErrStale)
	notes(t, of(3, lastID-1), 3, lastID, r, []Last{{3, lastID, r}}, api.OK)
}

// TestP14_3Order holds which error comes first.
func TestP14_3Order(t *testing.T) {
	r := marked(50)
	notes(t, of(1, 9), 1, 0, r, nil, api.ErrArg) // ahead of ErrStale
	notes(t, of(1, 9), 1, math.MinInt, r, nil, api.ErrArg)
	notes(t, of(1, 9, 1, 9), 1, 8, r, nil, api.ErrArg)
	notes(t, of(2, 9, 1, 9), 1, 10, r, nil, api.ErrArg)
	notes(t, of(4, 9), 4, 8, r, nil, api.ErrArg)
	notes(t, of(4, 9), 4, 10, r, nil, api.ErrArg)
	notes(t, of(1, lastID+1), 1, 2, r, nil, api.ErrArg) // also if it would be a table then
	notes(t, of(1, lastID+1), 1, lastID+2, r, nil, api.ErrArg)
	notes(t, of(1, 0), 1, 1, r, nil, api.ErrArg)
	notes(t, of(1, lastID), 1, lastID+1, r, nil, api.ErrArg)
	notes(t, nil, 4, 1, r, nil, api.ErrArg)
	notes(t, nil, -1, 1, r, nil, api.ErrArg)
	notes(t, nil, 0, lastID+1, r, nil, api.ErrArg)
}

// TestByChance holds all calls of tables, and of lists that are none, by chance.
func TestByChance(t *testing.T) {
	c := rand.New(rand.NewSource(14))
	answers := map[api.Errno]int{}
	told := 0
	for range 50000 {
		l, x := perhaps(c), wild(c)
		if id := modelOf(l, x.Client); c.Intn(2) == 0 && id > 0 && id < lastID {
			x.ID = id + c.Intn(3) - 1
		}
		holds(t, l, x)
		_, known, e := Ask(l, x.Client, x.ID)
		_, f := Note(l, x.Client, x.ID, x.Reply)
		answers[e]++
		answers[f]++
		if known {
			told++
		}
	}
	if answers[api.OK] < 5000 || answers[api.ErrArg] < 5000 || answers[api.ErrStale] < 5000 || told < 3000 {
		t.Errorf("errors %v, %d told again", answers, told)
	}
}

// each tells replies, no two of them the same: one without anything, and ones in which one thing is otherwise.
func each() []api.Reply {
	l := []api.Reply{{}, marked(1)}
	for _, n := range []int{-1, 1, math.MinInt, math.MaxInt, 140, 1 << 40} {
		l = append(l, api.Reply{Err: api.Errno(n)}, api.Reply{N: n}, api.Reply{Link: api.Link{N: n}}, api.Reply{Link: api.Link{Stamp: n}}, api.Reply{Link: api.Link{Tenant: n}},
			api.Reply{Link: api.Link{A: n}}, api.Reply{Link: api.Link{B: n}}, api.Reply{Link: api.Link{C: n}})
	}
	for _, s := range []string{"a", "b", "ab", "\x00", "\xff\xfe", "A", string(make([]byte, 5000))} {
		l = append(l, api.Reply{Value: s}, api.Reply{Keys: []string{s}}, api.Reply{Keys: []string{s, ""}}, api.Reply{Keys: []string{"", s}}, api.Reply{Keys: []string{s, s}}, api.Reply{Value: s, Keys: []string{s}})
	}
	for i := range 32 {
		var tag api.Tag
		tag[i] = 1
		l = append(l, api.Reply{Link: api.Link{Ahead: tag}}, api.Reply{Link: api.Link{Self: tag}})
	}
	return append(l, api.Reply{Keys: []string{""}}, api.Reply{Keys: make([]string, 2)}, api.Reply{Keys: make([]string, 3)}, api.Reply{Keys: []string{"b", "a"}}, api.Reply{Keys: []string{"a", "b"}}, api.Reply{Keys: []string{"a", "b", "c"}},
		api.Reply{Link: api.Link{Op: 1}}, api.Reply{Link: api.Link{Op: 255}})
}

// likewise tells the reply with keys in other memory.
func likewise(r api.Reply) api.Reply { return deep([]Last{{Reply: r}})[0].Reply }

func TestP14_4SameReply(t *testing.T) {
	for i, a := range each() {
		for k, b := range each() {
			if SameReply(a, b) != (i == k) || SameReply(a, likewise(b)) != (i == k) {
				t.Fatalf("%d, %d: %s, %s: SameReply tells %v", i, k, text(a), text(b), i != k)
			}
		}
	}
	room := slices.Grow([]string{"a", "b", "c"}, 9)
	if !SameReply(api.Reply{Keys: room[:2]}, api.Reply{Keys: []string{"a", "b"}}) || SameReply(api.Reply{Keys: room[:2]}, api.Reply{Keys: room}) {
		t.Errorf("what stands behind the keys counts")
	}
}

// TestP14_4SameReplyEachField holds it of replies that have something everywhere, and one thing otherwise.
func TestP14_4SameReplyEachField(t *testing.T) {
	r := marked(42)
	for _, change := range []func(x *api.Reply){
		func(x *api.Reply) { x.Err++ }, func(x *api.Reply) { x.Value = "v43" }, func(x *api.Reply) { x.Value = "" }, func(x *api.Reply) { x.N-- }, func(x *api.Reply) { x.N = 0 },
		func(x *api.Reply) { x.Keys = []string{"k42", "l43"} }, func(x *api.Reply) { x.Keys = []string{"k43", "l42"} }, func(x *api.Reply) { x.Keys = x.Keys[:1] }, func(x *api.Reply) { x.Keys = x.Keys[1:] },
		func(x *api.Reply) { x.Keys = append(x.Keys, "") }, func(x *api.Reply) { x.Keys = nil }, func(x *api.Reply) { x.Keys = []string{"l42", "k42"} },
		func(x *api.Reply) { x.Link.N++ }, func(x *api.Reply) { x.Link.Stamp++ }, func(x *api.Reply) { x.Link.Op++ }, func(x *api.Reply) { x.Link.Tenant++ }, func(x *api.Reply) { x.Link.A++ }, func(x *api.Reply) { x.Link.B++ }, func(x *api.Reply) { x.Link.C++ },
		func(x *api.Reply) { x.Link.Ahead[31]++ }, func(x *api.Reply) { x.Link.Self[0]++ }, func(x *api.Reply) { x.Link = api.Link{} },
	} {
		x := likewise(r)
		change(&x)
		if SameReply(r, x) || SameReply(x, r) || !SameReply(x, likewise(x)) {
			t.Errorf("%s, %s", text(r), text(x))
		}
		if l, m := []Last{one(0, 1), {1, 1, r}, one(2, 1)}, []Last{one(0, 1), {1, 1, x}, one(2, 1)}; Same(l, m) || Same(m, l) || !Same(m, deep(m)) {
			t.Errorf("%s, %s", texts(l), texts(m))
		}
	}
}

func TestP14_4Same(t *testing.T) {
	other := one(1, 2)
	other.Reply.N++
	all := [][]Last{
		nil, of(0, 1), of(1, 1), of(0, 2), of(0, 101), of(0, 1, 1, 1), of(0, 1, 1, 2), of(0, 1, 2, 1), of(0, 1, 1, 1, 2, 1), of(1, 1, 2, 1), {one(0, 1), other}, {other},
		of(0, 1, 1, 1, 2, 1, 3, 1), of(0, 1, 1, 1, 2, 1, 3, 2), {{Client: 1, ID: 1}}, {{Client: 1, ID: 1, Reply: one(0, 1).Reply}},
		of(1, 1, 0, 1), of(0, 1, 0, 1), of(-5, math.MinInt), {{}}, make([]Last, 2), of(math.MaxInt, 1), // no tables
	}
	for i, a := range all {
		for k, b := range all {
			if Same(a, b) != (i == k) || Same(a, deep(b)) != (i == k) {
				t.Fatalf("%d, %d:\n%sand\n%sSame tells %v", i, k, texts(a), texts(b), i != k)
			}
		}
	}
	room := of(0, 1, 1, 1, 2, 1)
	if !Same(room[:1], of(0, 1)) || !Same(room[1:], of(1, 1, 2, 1)) || Same(room[:2], room) {
		t.Errorf("what stands behind the list counts")
	}
}

// TestP14_4SameByChance holds it of lists by chance.
func TestP14_4SameByChance(t *testing.T) {
	c := rand.New(rand.NewSource(4))
	same := 0
	for range 20000 {
		a := perhaps(c)
		b := deep(a)
		if len(b) > 0 && c.Intn(2) == 0 {
			x := &b[c.Intn(len(b))]
			switch c.Intn(4) {
			case 0:
				x.ID = someID(c)
			case 1:
				x.Client = c.Intn(clients)
			default:
				x.Reply = someReply(c)
			}
		}
		want := texts(a) == texts(b)
		if Same(a, b) != want || Same(b, a) != want {
			t.Fatalf("\n%sand\n%sSame tells %v", texts(a), texts(b), !want)
		}
		if want {
			same++
		}
	}
	if same < 5000 || same > 16000 {
		t.Errorf("%d the same", same)
	}
}

// TestP14_5ToldAgain holds that what was noted last of a client is told again, whatever is noted of others, and what is refused of itself.
func TestP14_5ToldAgain(t *testing.T) {
	c := rand.New(rand.NewSource(5))
	for range 200 {
		var l []Last
		var ids [clients]int
		var told [clients]api.Reply
		for n := range 60 {
			client, id, r := c.Intn(clients), 1+c.Intn(n+9), marked(c.Intn(1000))
			m, e := Note(l, client, id, r)
			if (e == api.OK) != (id > ids[client]) {
				t.Fatalf("Note %d, %d: error %d to\n%s", client, id, e, texts(l))
			}
			if e == api.OK {
				l, ids[client], told[client] = m, id, r
			}
			for other, last := range ids {
				has(t, l, other, last)
				if last > 0 {
					asks(t, l, other, last, told[other], true, api.OK)
					isNew(t, l, other, last+1)
				}
				if last > 1 {
					refuses(t, l, other, last-1, api.ErrStale)
				}
			}
		}
	}
}

// TestP14_6NeverBack holds that no client's last id falls, whatever is noted.
func TestP14_6NeverBack(t *testing.T) {
	c := rand.New(rand.NewSource(6))
	taken := 0
	for range 20000 {
		l, x := perhaps(c), wild(c)
		m, e := Note(l, x.Client, x.ID, x.Reply)
		if e != api.OK {
			continue
		}
		taken++
		for client := range clients {
			was, is := Of(l, client), Of(m, client)
			if client != x.Client && is != was || client == x.Client && (is <= was || is != x.ID) {
				t.Fatalf("client %d: from %d to %d by %d, %d", client, was, is, x.Client, x.ID)
			}
		}
		if !May(m) {
			t.Fatalf("no table:\n%s", texts(m))
		}
	}
	if taken < 4000 {
		t.Errorf("%d taken", taken)
	}
}
