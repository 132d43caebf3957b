package state

import (
	"bytes"
	"encoding/hex"
	"math/rand"
	"slices"
	"strings"
	"testing"

	"seneschal/api"
	"seneschal/replies"
	"seneschal/space"
	"seneschal/token"
)

// holdsDo holds what Do makes of a state, and tells, against the model's; and tells it.
func holdsDo(t *testing.T, s State, stamp int, body []byte) (State, api.Reply) {
	t.Helper()
	want, r := text(s), api.Reply{Err: 2}
	if m, may := modelOf(s); may {
		r = m.do(root, stamp, body)
		want = text(m.laid())
	}
	next, told := Do(root, s, stamp, body)
	if replyText(told) != replyText(r) || text(next) != want {
		t.Fatalf("Do of\n%sat %d of %x tells\n%s, and\n%snot\n%s, and\n%s", text(s), stamp, body, replyText(told), text(next), replyText(r), want)
	}
	return next, told
}

// holdsApply holds the same of Apply.
func holdsApply(t *testing.T, s State, e api.Entry) (State, api.Reply) {
	t.Helper()
	want, r := text(s), api.Reply{Err: 2}
	if m, may := modelOf(s); may {
		r = m.apply(root, e)
		want = text(m.laid())
	}
	next, told := Apply(root, s, e)
	if replyText(told) != replyText(r) || text(next) != want {
		t.Fatalf("Apply of %v to\n%stells\n%s, and\n%snot\n%s, and\n%s", e, text(s), replyText(told), text(next), replyText(r), want)
	}
	return next, told
}

// play is a state that requests are done in, one behind the other.
type play struct {
	t *testing.T
	s State
}

// asks does a request, and tells what it is told.
func (p *play) asks(by api.Token, stamp int, q api.Request) api.Reply {
	p.t.Helper()
	next, r := holdsDo(p.t, p.s, stamp, form(by, q))
	p.s = next
	return r
}

// tells does a request at the stamp 10, and holds what it is told.
func (p *play) tells(by api.Token, q api.Request, want api.Reply) {
	p.t.Helper()
	if r := p.asks(by, 10, q); replyText(r) != replyText(want) {
		p.t.Fatalf("%v in\n%stells %s, not %s", q, text(p.s), replyText(r), replyText(want))
	}
}

// fails does a request that must be told that error, and do nothing.
func (p *play) fails(by api.Token, q api.Request, e api.Errno) {
	p.t.Helper()
	was := text(p.s)
	p.tells(by, q, api.Reply{Err: e})
	if text(p.s) != was {
		p.t.Fatalf("%v, error %d: from\n%sto\n%s", q, e, was, text(p.s))
	}
}

// boss is the admin's token.
func boss() api.Token { return own(0, 15) }

// put, get and the like are requests.
func put(key, value string) api.Request { return api.Request{Op: 2, Key: key, Value: value} }
func get(key string) api.Request        { return api.Request{Op: 1, Key: key} }
func swap(key, old, value string) api.Request {
	return api.Request{Op: 3, Key: key, Old: old, Value: value}
}
func del(key string) api.Request { return api.Request{Op: 4, Key: key} }
func list(from string, n int) api.Request {
	return api.Request{Op: 5, Key: from, N: n}
}
func create(tenant, keys, space int) api.Request {
	return api.Request{Op: 6, Tenant: tenant, Keys: keys, Space: space}
}
func resize(tenant, keys, space int) api.Request {
	return api.Request{Op: 7, Tenant: tenant, Keys: keys, Space: space}
}
func grant(tenant int, rights uint8, expiry int) api.Request {
	return api.Request{Op: 8, Tenant: tenant, Grant: api.Grant{Rights: rights, Expiry: expiry}}
}
func revoke(tenant, serial int) api.Request {
	return api.Request{Op: 9, Tenant: tenant, N: serial}
}
func auditAt(n int) api.Request { return api.Request{Op: 10, N: n} }

// one tells a request of each Op that may be asked for, at its Op's place.
func one() []api.Request {
	return []api.Request{{}, get("a"), put("a", "1"), swap("a", "1", "2"), del("a"), list("", 3), create(2, 1, 1), resize(1, 5, 200), grant(1, 7, 50), revoke(1, 9), auditAt(1)}
}

// entry tells an entry at the stamp 10.
func entry(pos, client, id int, body []byte) api.Entry {
	return api.Entry{Pos: pos, Stamp: 10, Client: client, ID: id, Body: body}
}

// TestExamples holds the chapter's examples, with tags that Python's hmac and hashlib told.
func TestExamples(t *testing.T) {
	s := New()
	next := func(by api.Token, stamp int, q api.Request) api.Reply {
		t.Helper()
		var r api.Reply
		s, r = holdsApply(t, s, api.Entry{Pos: s.Pos + 1, Stamp: stamp, Client: 1, ID: s.Pos + 1, Body: form(by, q)})
		return r
	}
	admin := Admin(root)
	if r := next(admin, 1, create(1, 4, 100)); r.Err != 0 {
		t.Fatal(replyText(r))
	}
	r := next(admin, 2, grant(1, 7, 50))
	mine, e := token.Parse([]byte(r.Value))
	if e != 0 || r.N != 1 || hex.EncodeToString(mine.Tag[:]) != "8608431a3e661b80248d2947a556c044979a7edc9b938177a74242f753d2d516" {
		t.Fatalf("%s: error %d, %x", replyText(r), e, mine.Tag)
	}
	for i, c := range []struct {
		by    api.Token
		stamp int
		q     api.Request
		want  api.Reply
	}{
		{mine, 49, put("a", "1"), api.Reply{}}, {mine, 49, get("a"), api.Reply{Value: "1"}}, {mine, 50, put("a", "1"), api.Reply{Err: api.ErrExpired}},
		{mine, 49, create(2, 1, 1), api.Reply{Err: api.ErrRight}}, {admin, 49, revoke(1, 1), api.Reply{}}, {mine, 49, get("a"), api.Reply{Err: api.ErrRevoked}},
		{admin, 49, auditAt(4), api.Reply{Err: api.ErrAudit}},
	} {
		if r := next(c.by, c.stamp, c.q); replyText(r) != replyText(c.want) {
			t.Errorf("%d: %s", i, replyText(r))
		}
	}
	for n, want := range []string{"a89f607b96953dab318a8d61c0fc3b2e0a18ce35b2ad18b55ba07cd416e04795", "905646690b80b1567b81fbbcfcff51466f298878ebf0cc5122c114b054aa1f46", "5de08fc87349723f2ff5a8c9acfca843f1399007dd14eb0ca2d2d4abca184c45"} {
		r := next(admin, 60, auditAt(n+1))
		if r.Link.N != n+1 || hex.EncodeToString(r.Link.Self[:]) != want || r.Value != "" || r.N != 0 {
			t.Errorf("link %d: %s, %x", n+1, replyText(r), r.Link.Self)
		}
	}
}

func TestP16_1New(t *testing.T) {
	s := New()
	if text(s) != "pos 0 shares []\ntenant 0 serials 1 limits 0 0 pairs [] revoked []\n" || !May(s) {
		t.Errorf("%s%v", text(s), May(s))
	}
	s.Tenants[0] = Tenant{Number: 5}
	if text(New()) == text(s) {
		t.Error("New is shared")
	}
}

// TestP16_1May holds of each thing that is otherwise whether the state may be; of one that may not be Do and Apply tell ErrArg, and leave it as it is.
func TestP16_1May(t *testing.T) {
	if !May(base()) || !May(wide()) || May(State{}) || May(State{Pos: 1}) {
		t.Fatal("base, wide, or nothing")
	}
	for _, x := range others() {
		s := base()
		x.change(&s)
		if _, is := modelOf(s); is != x.may {
			t.Fatalf("%s: the model tells %v of\n%s", x.name, is, text(s))
		}
		if May(s) != x.may {
			t.Errorf("%s: May tells %v of\n%s", x.name, !x.may, text(s))
		}
		for _, q := range []api.Request{get("a"), put("a", "5"), create(2, 1, 1), auditAt(1)} {
			by := own(1, 15)
			if q.Op > 5 {
				by = minted(root, 0, api.Grant{Rights: 15, Expiry: clock, Serial: 7})
			}
			holdsDo(t, s, 10, form(by, q))
			holdsApply(t, s, entry(s.Pos+1, 1, 1, form(by, q)))
		}
	}
}

// TestP16_1MayByChance holds the same of states by chance.
func TestP16_1MayByChance(t *testing.T) {
	c := rand.New(rand.NewSource(16))
	count := map[bool]int{}
	for range 3000 {
		s := perhaps(c)
		_, is := modelOf(s)
		if May(s) != is {
			t.Fatalf("May tells %v of\n%s", !is, text(s))
		}
		count[is]++
	}
	if count[true] < 500 || count[false] < 200 {
		t.Error(count)
	}
}

func TestP16_2Key(t *testing.T) {
	for _, c := range []struct {
		root   []byte
		tenant int
		want   string
	}{
		{root, 0, "bda2c2d88eca786544158a252fc51899904ff88cfc2ffad50f9b4f747ce9f665"},
		{root, 1, "f041213f2c8fec548f8441a3ac66b35d16fad0cc27f2ecf2f2dff225626f104b"},
		{root, 8, "d3fec3ba991b6ead3c8c87f31efd2fd003e57726a9fbdf0b9d20b12a09917f50"},
		{root, -1, "fa508712c2ec2a72a0620db3224021b646566b690afb0131af97eea030217ca3"},
		{nil, 3, "4e1fe4cf3142b1413c22bf86bc8a7fa2519a866918597463ad8f3c6a369c73da"},
	} {
		if k := hex.EncodeToString(Key(c.root, c.tenant)); k != c.want {
			t.Errorf("%x, %d: %s", c.root, c.tenant, k)
		}
	}
	for n := range 100 {
		for _, tenant := range ends() {
			r := bytes.Repeat([]byte{byte(n)}, n)
			if !bytes.Equal(Key(r, tenant), keyOf(r, tenant)) {
				t.Fatalf("%x, %d: %x", r, tenant, Key(r, tenant))
			}
		}
	}
}

func TestP16_2Admin(t *testing.T) {
	for _, c := range []struct {
		root []byte
		tag  string
	}{
		{root, "d4cced2b0d6b0284a9e2f46dc5f6d5ce92437c26c575063d84a073cc8a184f07"},
		{nil, "e33c0400b9b69d7e9d16d67ee9d021185dab0362f193e081d7fcea7696f13e2d"},
	} {
		a := Admin(c.root)
		if a.Tenant != 0 || !slices.Equal(a.Line, []api.Grant{{Rights: 15, Expiry: 1 << 40, Serial: 1}}) || hex.EncodeToString(a.Tag[:]) != c.tag {
			t.Errorf("%x: %v", c.root, a)
		}
		if !bytes.Equal(printed(a), printed(minted(c.root, 0, a.Line...))) {
			t.Errorf("%x: %v isn't the model's", c.root, a)
		}
	}
}

func TestP16_2Needs(t *testing.T) {
	want := map[int]uint8{1: 1, 2: 2, 3: 2, 4: 2, 5: 4, 6: 8, 7: 8, 8: 8, 9: 8, 10: 8}
	for op := range 256 {
		if n := Needs(uint8(op)); n != want[op] {
			t.Errorf("%d: %d", op, n)
		}
	}
}

// TestP16_3Op holds that all bytes that aren't a request's are told ErrOp, also those that are too many.
func TestP16_3Op(t *testing.T) {
	p := &play{t, base()}
	good := form(own(1, 7), get("a"))
	for _, body := range [][]byte{nil, {}, {1}, make([]byte, 67), make([]byte, 1024), make([]byte, 1025), make([]byte, 70000), good[1:], good[:len(good)-1], append(slices.Clone(good), 0), append(slices.Clone(good), make([]byte, 1000)...)} {
		s, r := holdsDo(t, p.s, 10, body)
		if replyText(r) != replyText(api.Reply{Err: 150}) || text(s) != text(p.s) {
			t.Fatalf("%x: %s", body, replyText(r))
		}
	}
	for _, q := range []api.Request{
		{}, {Op: 11, Key: "a"}, {Op: 255}, get(""), put("a", strings.Repeat("v", 65)), list("", 17),
		create(0, 1, 1), create(9, 1, 1), resize(1, 65537, 0), grant(1, 0, 5), grant(1, 16, 5), grant(9, 1, 1), grant(1, 1, clock+1),
		revoke(1, 65537), revoke(9, 1), revoke(-1, 1), auditAt(-1),
	} {
		p.fails(boss(), q, 150)
	}
	for at := range good { // each byte otherwise, and the model tells which error
		b := slices.Clone(good)
		b[at]++
		holdsDo(t, p.s, 10, b)
	}
}

// TestP16_3Token holds which tokens' bytes are told ErrToken, which tokens ErrTag.
func TestP16_3Token(t *testing.T) {
	p := &play{t, base()}
	g := api.Grant{Rights: 7, Expiry: clock, Serial: 1}
	for _, by := range []api.Token{
		{}, minted(root, 9, g), minted(root, -1, g), minted(root, 1), minted(root, 1, slices.Repeat([]api.Grant{g}, 5)...),
		minted(root, 1, api.Grant{Rights: 7, Expiry: 9}), minted(root, 1, api.Grant{Rights: 16, Expiry: 9, Serial: 1}), minted(root, 1, g, api.Grant{Rights: 7, Expiry: -1, Serial: 1}),
	} {
		p.fails(by, get("a"), 90)
		p.fails(by, auditAt(1), 90)
	}
	mine := own(1, 7)
	for _, by := range []api.Token{
		minted(nil, 1, g), minted(root[1:], 1, g), minted(bytes.Repeat([]byte{2}, 32), 1, g), {Tenant: 1, Line: mine.Line}, {Tenant: 3, Line: mine.Line, Tag: mine.Tag}, {Tenant: 0, Line: mine.Line, Tag: mine.Tag},
		{Tenant: 1, Line: []api.Grant{{Rights: 15, Expiry: clock, Serial: 1}}, Tag: mine.Tag}, {Tenant: 1, Line: []api.Grant{{Rights: 7, Expiry: clock, Serial: 2}}, Tag: mine.Tag}, {Tenant: 1, Line: append(mine.Line, g), Tag: mine.Tag},
		{Tenant: 1, Line: mine.Line, Tag: minted(root, 1, g, g).Tag}, {Tenant: 8, Line: mine.Line, Tag: mine.Tag},
	} {
		p.fails(by, get("a"), 91)
		p.fails(by, put("a", "9"), 91)
		p.fails(by, auditAt(1), 91)
	}
	for at := range 256 {
		by := own(1, 7)
		by.Tag[at/8] ^= 1 << (at % 8)
		p.fails(by, get("a"), 91)
	}
	for number := range tenants + 1 {
		p.fails(minted(append(keyOf(root, 1), 0), number, g), get("b"), 91)
	}
	p.tells(mine, get("a"), api.Reply{Value: "1"})
	p.tells(minted(root, 1, g, g, g, g), get("b"), api.Reply{Value: "22"})
}

// TestP16_3Tenant holds that a token of a tenant that there isn't is told ErrTenant, and each other one's is the tenant's own.
func TestP16_3Tenant(t *testing.T) {
	for number := range tenants + 1 {
		p := &play{t, base()}
		switch number {
		case 0:
			p.fails(own(number, 7), get("a"), 110)
		case 1:
			p.tells(own(number, 7), get("a"), api.Reply{Value: "1"})
		case 3:
			p.tells(own(number, 7), get("a"), api.Reply{Value: "3"})
		default:
			for _, q := range one()[1:] {
				p.fails(own(number, 15), q, 160)
			}
			p.tells(boss(), create(number, 1, 9), api.Reply{})
			p.fails(own(number, 7), get("a"), 110)
			p.tells(own(number, 7), put("a", "9"), api.Reply{})
			p.tells(own(number, 7), get("a"), api.Reply{Value: "9"})
		}
	}
}

// TestP16_3Revoked holds that a serial anywhere in a line counts, and only those of the token's own tenant.
func TestP16_3Revoked(t *testing.T) {
	p := &play{t, base()}
	of := func(tenant int, serials ...int) api.Token {
		var line []api.Grant
		for _, n := range serials {
			line = append(line, api.Grant{Rights: 15, Expiry: clock, Serial: n})
		}
		return minted(root, tenant, line...)
	}
	for _, l := range [][]int{{3}, {5}, {1, 3}, {5, 1}, {1, 1, 1, 5}, {1, 3, 1}, {3, 5}} {
		p.fails(of(1, l...), get("a"), 93)
		p.fails(of(1, l...), create(2, 1, 1), 93)
		p.tells(of(3, l...), get("a"), api.Reply{Value: "3"})
		p.tells(of(0, l...), auditAt(1), api.Reply{Link: p.s.Links[0]})
	}
	for _, l := range [][]int{{1}, {2}, {4}, {6}, {1, 2, 4, 6}, {clock}} {
		p.tells(of(1, l...), get("a"), api.Reply{Value: "1"})
	}
	for _, q := range one()[6:] {
		p.fails(of(0, 2), q, 93)
		p.fails(of(0, 1, 2), q, 93)
	}
}

// TestP16_3Expired holds at which stamps a token counts: the least expiry of its line is above it.
func TestP16_3Expired(t *testing.T) {
	s := base()
	line := func(rights uint8, expiries ...int) api.Token {
		var l []api.Grant
		for _, n := range expiries {
			l = append(l, api.Grant{Rights: rights, Expiry: n, Serial: 1})
		}
		return minted(root, 1, l...)
	}
	for _, stamp := range append(ends(), 48, 49, 50, 51) {
		for _, by := range []api.Token{line(7, 50), line(7, 60, 50), line(7, 50, 60), line(7, clock), line(7, 0), line(7, clock, 50, clock)} {
			least := by.Line[0].Expiry
			for _, g := range by.Line {
				least = min(least, g.Expiry)
			}
			_, r := holdsDo(t, s, stamp, form(by, get("a")))
			if want := stamp < least; (r.Err == 0) != want || r.Err != 0 && r.Err != 92 {
				t.Errorf("%v at %d: %s", by.Line, stamp, replyText(r))
			}
		}
		_, r := holdsDo(t, s, stamp, form(boss(), auditAt(1)))
		if (r.Err == 0) != (stamp < clock) {
			t.Errorf("the admin at %d: %s", stamp, replyText(r))
		}
	}
}

// TestP16_3Right holds which rights each Op asks for, of all lines of two grants, and that only the admin's count for its own Ops.
func TestP16_3Right(t *testing.T) {
	for op, q := range one() {
		for a := range uint8(16) {
			for b := range uint8(16) {
				for tenant := range 2 {
					if op == 0 || b != 15 && b != a && a != 15 && tenant == 0 {
						continue
					}
					by := minted(root, tenant, api.Grant{Rights: a, Expiry: clock, Serial: 1}, api.Grant{Rights: b, Expiry: clock, Serial: 1})
					_, r := holdsDo(t, base(), 10, form(by, q))
					may := a&b&needs[op] == needs[op] && (tenant == 0 || op < 6)
					if may == (r.Err == 94) {
						t.Fatalf("tenant %d, rights %d, %d, op %d: %s", tenant, a, b, op, replyText(r))
					}
				}
			}
		}
	}
}

// TestP16_3Order holds which error comes first, of each and the next one that there may be as well.
func TestP16_3Order(t *testing.T) {
	s := base()
	old := func(tenant, serial int, rights uint8) api.Token {
		return minted(root, tenant, api.Grant{Rights: rights, Expiry: 5, Serial: serial})
	}
	wrong := func(by api.Token) api.Token {
		by.Tag[0]++
		return by
	}
	p := &play{t, s}
	p.fails(api.Token{}, api.Request{Op: 11}, 150)
	p.fails(wrong(old(1, 3, 0)), api.Request{Op: 1}, 150)
	p.fails(wrong(minted(root, 9, api.Grant{Serial: 3})), get("a"), 90)
	p.fails(wrong(old(1, 0, 0)), get("a"), 90)
	p.fails(wrong(old(2, 3, 0)), get("a"), 91)
	p.fails(wrong(old(1, 3, 0)), get("a"), 91)
	p.fails(old(2, 3, 0), get("a"), 160)
	p.fails(old(1, 3, 0), get("c"), 93)
	p.fails(old(1, 3, 0), create(1, 65, 0), 93)
	p.fails(old(1, 1, 0), get("c"), 92)
	p.fails(old(1, 1, 0), create(1, 65, 0), 92)
	p.fails(old(1, 1, 15), create(1, 65, 0), 92)
	p.fails(own(1, 6), get("c"), 94)
	p.fails(own(1, 13), swap("a", "2", "3"), 94)
	p.fails(own(1, 7), create(1, 65, 0), 94)
	p.fails(own(1, 15), create(1, 65, 0), 94)
	p.fails(own(3, 15), grant(2, 1, 1), 94)
	p.fails(own(1, 15), auditAt(9), 94)
	p.s.Lasts = slices.Repeat(p.s.Lasts, 2)
	p.fails(api.Token{}, api.Request{Op: 11}, 2)
	p.fails(old(1, 3, 0), get("c"), 2)
}

// TestP16_3Keys holds what the tenants' own Ops do and tell: chapter 11's, of the token's tenant's space.
func TestP16_3Keys(t *testing.T) {
	p := &play{t, New()}
	p.tells(boss(), create(4, 3, 12), api.Reply{})
	p.tells(boss(), create(2, 9, 99), api.Reply{})
	mine, other := own(4, 7), own(2, 7)
	p.tells(mine, put("b", "123"), api.Reply{})
	p.tells(mine, put("a", ""), api.Reply{})
	p.tells(mine, put("c", "456"), api.Reply{})
	p.tells(mine, put("c", "4567"), api.Reply{})
	p.tells(mine, put("c", "45678"), api.Reply{})
	p.tells(mine, put("c", "456789"), api.Reply{})
	p.fails(mine, put("c", "4567890"), 120)
	p.fails(mine, put("d", ""), 120)
	p.tells(mine, get("a"), api.Reply{})
	p.tells(mine, get("b"), api.Reply{Value: "123"})
	p.fails(mine, get("d"), 110)
	p.fails(other, get("a"), 110)
	p.tells(other, put("a", "other"), api.Reply{})
	p.fails(mine, swap("b", "12", "x"), 111)
	p.fails(mine, swap("d", "12", "x"), 110)
	p.fails(mine, swap("b", "123", "12345678"), 120)
	p.tells(mine, swap("b", "123", "x"), api.Reply{})
	p.tells(mine, get("b"), api.Reply{Value: "x"})
	p.tells(mine, list("", 16), api.Reply{Keys: []string{"a", "b", "c"}})
	p.tells(mine, list("", 2), api.Reply{Keys: []string{"a", "b"}})
	p.tells(mine, list("aa", 1), api.Reply{Keys: []string{"b"}})
	p.tells(mine, list("d", 1), api.Reply{})
	p.fails(mine, del("d"), 110)
	p.tells(mine, del("b"), api.Reply{})
	p.fails(mine, del("b"), 110)
	p.tells(mine, list("", 16), api.Reply{Keys: []string{"a", "c"}})
	p.tells(other, list("", 16), api.Reply{Keys: []string{"a"}})
	p.tells(other, get("a"), api.Reply{Value: "other"})
	if len(p.s.Links) != 2 {
		t.Errorf("links of what no admin did:\n%s", text(p.s))
	}
}

// TestP16_3AdminsKeys holds that the admin's space has no room.
func TestP16_3AdminsKeys(t *testing.T) {
	p := &play{t, base()}
	p.fails(boss(), put("a", ""), 120)
	p.fails(boss(), get("a"), 110)
	p.fails(boss(), swap("a", "", ""), 110)
	p.fails(boss(), del("a"), 110)
	p.fails(boss(), list("", 16), 0)
}

// linked holds that the last link of a state is that one.
func (p *play) linked(n int, op uint8, tenant, a, b, c int) {
	p.t.Helper()
	l := p.s.Links
	if len(l) != n || n == 0 {
		p.t.Fatalf("%d links, not %d", len(l), n)
	}
	x := l[n-1]
	if x.N != n || x.Stamp != 10 || x.Op != op || x.Tenant != tenant || x.A != a || x.B != b || x.C != c {
		p.t.Fatalf("link %d: %v", n, x)
	}
}

func TestP16_3Create(t *testing.T) {
	p := &play{t, New()}
	p.fails(boss(), create(5, 65, 0), 2)
	p.fails(boss(), create(5, 0, 4097), 2)
	p.fails(boss(), create(5, 65536, 65536), 2)
	p.tells(boss(), create(5, 40, 4000), api.Reply{})
	p.linked(1, 6, 5, 40, 4000, 0)
	p.fails(boss(), create(5, 1, 1), 161)
	p.fails(boss(), create(5, 65, 1), 2)
	p.fails(boss(), create(5, 30, 1), 161)
	p.fails(boss(), create(2, 25, 96), 120)
	p.fails(boss(), create(2, 24, 97), 120)
	p.tells(boss(), create(2, 24, 96), api.Reply{})
	p.linked(2, 6, 2, 24, 96, 0)
	p.fails(boss(), create(8, 1, 0), 120)
	p.fails(boss(), create(8, 0, 1), 120)
	p.tells(boss(), create(8, 0, 0), api.Reply{})
	p.linked(3, 6, 8, 0, 0, 0)
	p.tells(boss(), create(1, 0, 0), api.Reply{})
	want := "pos 0 shares [{1 0 0} {2 24 96} {5 40 4000} {8 0 0}]\ntenant 0 serials 1 limits 0 0 pairs [] revoked []\ntenant 1 serials 0 limits 0 0 pairs [] revoked []\n" +
		"tenant 2 serials 0 limits 24 96 pairs [] revoked []\ntenant 5 serials 0 limits 40 4000 pairs [] revoked []\ntenant 8 serials 0 limits 0 0 pairs [] revoked []\n"
	if !strings.HasPrefix(text(p.s), want) || len(p.s.Links) != 4 {
		t.Errorf("%s", text(p.s))
	}
	p = &play{t, New()} // whatever the order is in which tenants come, each with what is its own
	for _, number := range []int{8, 3, 6, 1, 7, 2, 5, 4} {
		p.tells(boss(), create(number, number, 100*number), api.Reply{})
		p.tells(own(number, 7), put("k", strings.Repeat("v", number)), api.Reply{})
	}
	for number := 1; number <= tenants; number++ {
		p.tells(own(number, 7), get("k"), api.Reply{Value: strings.Repeat("v", number)})
	}
}

func TestP16_3Resize(t *testing.T) {
	p := &play{t, base()}
	p.fails(boss(), resize(1, 65, 100), 2)
	p.fails(boss(), resize(1, 4, 4097), 2)
	p.fails(boss(), resize(2, 65, 100), 2)
	p.fails(boss(), resize(2, 1, 1), 160)
	p.fails(boss(), resize(8, 63, 1), 160)
	p.fails(boss(), resize(1, 63, 100), 120)
	p.fails(boss(), resize(1, 4, 4047), 120)
	p.fails(boss(), resize(1, 3, 100), 120) // also if what is used is less: 2 keys, 5 bytes
	p.fails(boss(), resize(1, 4, 99), 120)
	p.fails(boss(), resize(1, 62, 99), 120)
	p.fails(boss(), resize(1, 3, 4046), 120)
	p.fails(boss(), resize(3, 1, 49), 120)
	p.tells(boss(), resize(1, 4, 100), api.Reply{})
	p.linked(3, 7, 1, 4, 100, 0)
	p.tells(boss(), resize(1, 5, 100), api.Reply{})
	p.linked(4, 7, 1, 5, 100, 0)
	p.tells(boss(), resize(1, 5, 101), api.Reply{})
	p.tells(boss(), resize(1, 62, 4046), api.Reply{})
	p.linked(6, 7, 1, 62, 4046, 0)
	p.fails(boss(), resize(3, 3, 50), 120)
	p.tells(boss(), resize(3, 2, 50), api.Reply{})
	want := base()
	want.Shares[0].Keys, want.Shares[0].Space, want.Tenants[1].Space.Keys, want.Tenants[1].Space.Bytes = 62, 4046, 62, 4046
	want.Links = p.s.Links
	if text(p.s) != text(want) {
		t.Errorf("%s", text(p.s))
	}
	p.tells(own(1, 7), put("c", strings.Repeat("v", 64)), api.Reply{}) // now there is room
	p.tells(own(1, 7), put("d", strings.Repeat("v", 64)), api.Reply{})
}

func TestP16_3Grant(t *testing.T) {
	p := &play{t, base()}
	serials := map[int]int{0: 2, 1: 1, 3: 0}
	links := 2
	for n := range 3 {
		for tenant := range tenants + 1 {
			for rights := uint8(1); rights < 16; rights++ {
				q := grant(tenant, rights, 7*n)
				last, there := serials[tenant]
				switch {
				case !there:
					p.fails(boss(), q, 160)
				case tenant > 0 && rights > 7:
					p.fails(boss(), q, 94)
				default:
					serials[tenant]++
					links++
					by := minted(root, tenant, api.Grant{Rights: rights, Expiry: 7 * n, Serial: last + 1})
					p.tells(boss(), q, api.Reply{Value: string(printed(by)), N: last + 1})
					p.linked(links, 8, tenant, int(rights), 7*n, last+1)
				}
			}
		}
	}
	want := base()
	want.Tenants[0].Serials, want.Tenants[1].Serials, want.Tenants[2].Serials, want.Links = 47, 22, 21, p.s.Links
	if text(p.s) != text(want) {
		t.Errorf("%s", text(p.s))
	}
	p.tells(boss(), create(7, 1, 1), api.Reply{})
	p.tells(boss(), grant(7, 1, clock), api.Reply{Value: string(printed(own(7, 1))), N: 1})
	p.tells(boss(), grant(0, 8, clock), api.Reply{Value: string(printed(minted(root, 0, api.Grant{Rights: 8, Expiry: clock, Serial: 48}))), N: 48})
	p.tells(minted(root, 0, api.Grant{Rights: 8, Expiry: clock, Serial: 48}), resize(7, 1, 1), api.Reply{})
}

// TestP16_3LastSerial holds that there is no serial above the last one: ErrArg, ahead of ErrRight.
func TestP16_3LastSerial(t *testing.T) {
	p := &play{t, base()}
	p.s.Tenants[0].Serials, p.s.Tenants[1].Serials = clock, clock-1
	p.fails(boss(), grant(0, 1, 1), 2)
	p.fails(boss(), grant(0, 15, 1), 2)
	p.fails(boss(), grant(1, 8, 1), 94)
	p.tells(boss(), grant(1, 7, 1), api.Reply{Value: string(printed(minted(root, 1, api.Grant{Rights: 7, Expiry: 1, Serial: clock}))), N: clock})
	p.linked(3, 8, 1, 7, 1, clock)
	p.fails(boss(), grant(1, 7, 1), 2)
	p.fails(boss(), grant(1, 8, 1), 2)
	p.fails(boss(), grant(2, 8, 1), 160)
	p.tells(boss(), grant(3, 7, 1), api.Reply{Value: string(printed(minted(root, 3, api.Grant{Rights: 7, Expiry: 1, Serial: 1}))), N: 1})
}

func TestP16_3Revoke(t *testing.T) {
	p := &play{t, base()}
	p.fails(boss(), revoke(2, 0), 160)
	p.fails(boss(), revoke(2, 1), 160)
	p.fails(boss(), revoke(1, 0), 2)
	p.fails(boss(), revoke(0, 0), 2)
	p.tells(boss(), revoke(1, 4), api.Reply{})
	p.linked(3, 9, 1, 4, 0, 0)
	p.tells(boss(), revoke(1, 65536), api.Reply{}) // also one that nobody minted
	p.linked(4, 9, 1, 65536, 0, 0)
	p.tells(boss(), revoke(1, 4), api.Reply{}) // again: done without an error, and so there is a link
	p.linked(5, 9, 1, 4, 0, 0)
	want := base()
	want.Tenants[1].Revoked, want.Links = []int{3, 4, 5, 65536}, p.s.Links
	if text(p.s) != text(want) {
		t.Errorf("%s", text(p.s))
	}
	for n := 100; n < 128; n++ {
		p.tells(boss(), revoke(1, n), api.Reply{})
	}
	p.fails(boss(), revoke(1, 128), 4)
	p.fails(boss(), revoke(1, 1), 4)
	p.fails(boss(), revoke(1, 0), 2)
	p.tells(boss(), revoke(1, 127), api.Reply{})
	p.tells(boss(), revoke(3, 128), api.Reply{})
	p.fails(minted(root, 3, api.Grant{Rights: 7, Expiry: clock, Serial: 128}), get("a"), 93)
	p.tells(boss(), revoke(0, 1), api.Reply{}) // the admin's own: from now on that token does nothing
	p.linked(36, 9, 0, 1, 0, 0)
	p.fails(boss(), revoke(0, 1), 93)
	p.fails(boss(), auditAt(1), 93)
	p.tells(own(1, 7), get("a"), api.Reply{Value: "1"})
}

func TestP16_3Audit(t *testing.T) {
	p := &play{t, base()}
	for _, n := range []int{0, 3, 4, 65536} {
		p.fails(boss(), auditAt(n), 130)
	}
	for n := range 2 {
		p.tells(boss(), auditAt(n+1), api.Reply{Link: base().Links[n]}) // also one that is as no chain has it
	}
	p.s.Links = nil
	p.fails(boss(), auditAt(1), 130)
	for n := range 70 {
		p.tells(boss(), revoke(0, 9+n%8), api.Reply{})
	}
	for n := range 70 {
		p.tells(boss(), auditAt(n+1), api.Reply{Link: p.s.Links[n]})
	}
	p.fails(boss(), auditAt(71), 130)
}

// TestP16_3Stamp holds that a link has the stamp, whatever that is, of Do.
func TestP16_3Stamp(t *testing.T) {
	for _, stamp := range ends() {
		if stamp >= clock {
			continue
		}
		for _, q := range one()[6:10] {
			s, r := holdsDo(t, base(), stamp, form(boss(), q))
			if r.Err != 0 || len(s.Links) != 3 || s.Links[2].Stamp != stamp {
				t.Errorf("%v at %d: %s", q, stamp, replyText(r))
			}
		}
	}
}

// TestP16_3Root holds that keys come of the root, whatever it is.
func TestP16_3Root(t *testing.T) {
	for _, r := range [][]byte{nil, {}, {1}, root[:31], bytes.Repeat([]byte{7}, 100), []byte("seneschal")} {
		body := form(minted(r, 1, api.Grant{Rights: 7, Expiry: 20, Serial: 1}), get("b"))
		if _, told := Do(r, base(), 10, body); told.Value != "22" {
			t.Errorf("%x: %s", r, replyText(told))
		}
		if _, told := Do(root, base(), 10, body); told.Err != 91 {
			t.Errorf("%x: %s", r, replyText(told))
		}
		s, told := Do(r, base(), 10, form(Admin(r), grant(1, 3, 20)))
		if told.Value != string(printed(minted(r, 1, api.Grant{Rights: 3, Expiry: 20, Serial: 2}))) || s.Tenants[1].Serials != 2 {
			t.Errorf("%x: %s", r, replyText(told))
		}
		s, told = Apply(r, s, entry(4, 1, 1, body))
		if told.Value != "22" || s.Pos != 4 || s.Lasts[1].Reply.Value != "22" {
			t.Errorf("%x: %s", r, replyText(told))
		}
	}
}

// TestP16_3Apply holds which entries do nothing, and are told ErrArg; of each number at all its edges.
func TestP16_3Apply(t *testing.T) {
	body := form(own(1, 7), put("a", "9"))
	good := entry(4, 1, 1, body)
	for _, n := range ends() {
		for i, may := range []bool{n == 4, n >= 0 && n <= clock, n >= 0 && n < 4, n >= 1 && n <= clock} {
			e := good
			*[]*int{&e.Pos, &e.Stamp, &e.Client, &e.ID}[i] = n
			s, r := holdsApply(t, base(), e)
			if refused := r.Err == 2; refused == may || refused != (text(s) == text(base())) || !refused && s.Pos != 4 {
				t.Errorf("%v: %s, and\n%s", e, replyText(r), text(s))
			}
		}
		s := base()
		s.Pos = n
		for _, pos := range []int{n - 1, n, n + 1, n + 2} {
			e := good
			e.Pos = pos
			holdsApply(t, s, e)
		}
	}
	s := base()
	s.Pos = clock - 1
	s, r := holdsApply(t, s, entry(clock, 1, 1, body))
	if r.Err != 0 || s.Pos != clock {
		t.Errorf("the last entry: %s", replyText(r))
	}
	if _, r = holdsApply(t, s, entry(clock+1, 1, 2, body)); r.Err != 2 {
		t.Errorf("one behind it: %s", replyText(r))
	}
}

// TestP16_3Noted holds that what is told is noted, an error, too; that an entry of an earlier id is told ErrStale, and of it only Pos is left.
func TestP16_3Noted(t *testing.T) {
	s := base()
	next := func(client, id int, body []byte, want api.Reply) {
		t.Helper()
		was := s
		var r api.Reply
		if s, r = holdsApply(t, s, entry(s.Pos+1, client, id, body)); replyText(r) != replyText(want) {
			t.Fatalf("%s, not %s", replyText(r), replyText(want))
		}
		if r.Err == 140 {
			was.Pos++
			if text(s) != text(was) {
				t.Fatalf("%s", text(s))
			}
			return
		}
		if told, known, e := replies.Ask(s.Lasts, client, id); replyText(told) != replyText(want) || !known || e != 0 {
			t.Fatalf("noted: %s", replyText(told))
		}
	}
	mine := own(1, 7)
	next(0, 1, form(mine, put("c", "3")), api.Reply{Err: 140})
	next(0, 2, form(mine, put("c", "3")), api.Reply{Value: "v", N: 4}) // what base has, whatever is asked for
	next(0, 3, form(mine, put("c", "3")), api.Reply{})
	next(0, 3, form(mine, put("c", "4")), api.Reply{})
	next(0, 2, form(mine, put("c", "5")), api.Reply{Err: 140})
	next(1, 7, form(mine, get("c")), api.Reply{Value: "3"}) // ids may be left out
	next(1, 6, form(mine, get("c")), api.Reply{Err: 140})
	next(3, 1, []byte{1, 2, 3}, api.Reply{Err: 150})
	next(3, 1, form(mine, get("a")), api.Reply{Err: 150})
	next(3, 2, form(own(2, 7), get("a")), api.Reply{Err: 160})
	next(2, 1, nil, api.Reply{Keys: []string{"k", "l"}})
	next(2, 2, form(mine, list("b", 9)), api.Reply{Keys: []string{"b", "c"}})
	next(0, clock, form(boss(), auditAt(2)), api.Reply{Link: base().Links[1]})
	next(0, clock-1, form(boss(), auditAt(2)), api.Reply{Err: 140})
	next(3, 3, form(boss(), grant(3, 1, 99)), api.Reply{Value: string(printed(minted(root, 3, api.Grant{Rights: 1, Expiry: 99, Serial: 1}))), N: 1})
	next(3, 3, form(boss(), grant(3, 1, 99)), api.Reply{Value: string(printed(minted(root, 3, api.Grant{Rights: 1, Expiry: 99, Serial: 1}))), N: 1})
	if len(s.Links) != 3 || s.Tenants[2].Serials != 1 || s.Pos != 19 {
		t.Errorf("%s", text(s))
	}
}

// TestP16_3DoKeeps holds that Do leaves Pos and Lasts, whatever is done.
func TestP16_3DoKeeps(t *testing.T) {
	for _, q := range one() {
		for _, by := range []api.Token{boss(), own(1, 7), {}} {
			s, _ := holdsDo(t, base(), 10, form(by, q))
			if s.Pos != 3 || !replies.Same(s.Lasts, base().Lasts) {
				t.Errorf("%v: %s", q, text(s))
			}
		}
	}
}

// opOf tells the Op of a request's bytes, 0 of none.
func opOf(body []byte) int {
	if len(body) == 0 {
		return 0
	}
	return int(body[0])
}

// TestP16_3ByChance holds long lines of entries, from the first state on and from others, each one's outcome among them.
func TestP16_3ByChance(t *testing.T) {
	c := rand.New(rand.NewSource(17))
	count := map[[2]int]int{}
	for n := range 200 {
		s := New()
		if n%2 == 0 {
			s = someState(c)
			s.Pos = oneOf(c, s.Pos, 5)
		}
		for range 60 {
			body := someBody(c, s)
			stamp := oneOf(c, -5, 0, 20, 50, clock-1)
			if s.Pos > 3 && c.Intn(2) == 0 { // Do alone is asked, too
				_, r := holdsDo(t, s, stamp, body)
				count[[2]int{opOf(body), int(r.Err)}]++
				continue
			}
			e := someEntry(c, s)
			for _, x := range s.Lasts {
				if x.Client == e.Client && c.Intn(5) > 0 {
					e.ID = x.ID + 1
				}
			}
			next, r := holdsApply(t, s, e)
			s = next
			count[[2]int{opOf(e.Body), int(r.Err)}]++
		}
	}
	for op, l := range [][]int{{}, {0, 110}, {0, 120}, {0, 110, 111, 120}, {0, 110}, {0}, {0, 2, 120, 161}, {0, 2, 120, 160}, {0, 2, 94, 160}, {0, 2, 4, 160}, {0, 130}} {
		for _, e := range append(l, 90, 91, 92, 93, 94, 160) {
			if op > 0 && count[[2]int{op, e}] < 2 {
				t.Errorf("op %d, error %d: %d times", op, e, count[[2]int{op, e}])
			}
		}
	}
}

func TestP16_4Of(t *testing.T) {
	s := base()
	for _, n := range ends() {
		x, is := Of(s, n)
		want := Tenant{}
		for _, y := range s.Tenants {
			if y.Number == n {
				want = y
			}
		}
		if is != (n == 0 || n == 1 || n == 3) || tenantText(x) != tenantText(want) {
			t.Errorf("%d: %v, %s", n, is, tenantText(x))
		}
		if x, is := Of(State{}, n); is || tenantText(x) != tenantText(Tenant{}) {
			t.Errorf("%d of nothing: %v, %s", n, is, tenantText(x))
		}
		s.Tenants[2].Number = n // of any state the first one
		first := s.Tenants[2]
		if n == 0 || n == 1 {
			first = s.Tenants[n]
		}
		if x, is := Of(s, n); !is || tenantText(x) != tenantText(first) {
			t.Errorf("%d: %v, %s", n, is, tenantText(x))
		}
		s.Tenants[2].Number = 3
	}
	s.Tenants = []Tenant{{Number: 5, Serials: -1}, {Number: 2, Serials: 1}, {Number: 5, Serials: 2}, {Number: 2, Serials: 3}}
	if x, is := Of(s, 5); !is || x.Serials != -1 {
		t.Errorf("5: %v, %s", is, tenantText(x))
	}
	if x, is := Of(s, 2); !is || x.Serials != 1 {
		t.Errorf("2: %v, %s", is, tenantText(x))
	}
}

// TestP16_4Same holds all pairs of states in which something is otherwise.
func TestP16_4Same(t *testing.T) {
	var l []State
	var texts []string
	for _, x := range others() {
		s := base()
		x.change(&s)
		l, texts = append(l, s), append(texts, text(s))
	}
	l, texts = append(l, base(), New(), State{}, wide()), append(texts, text(base()), text(New()), text(State{}), text(wide()))
	for i, a := range l {
		if !Same(a, deep(a)) || !Same(deep(a), a) {
			t.Fatalf("not the same as itself:\n%s", texts[i])
		}
		for k, b := range l {
			if Same(a, b) != (texts[i] == texts[k]) {
				t.Fatalf("Same of\n%sand\n%stells %v", texts[i], texts[k], Same(a, b))
			}
		}
	}
}

// TestP16_5LeadsOn holds that of states that may be, whatever is done, states that may be come.
func TestP16_5LeadsOn(t *testing.T) {
	c := rand.New(rand.NewSource(18))
	for range 2000 {
		s := someState(c)
		if !May(s) {
			t.Fatalf("none:\n%s", text(s))
		}
		next, r := Do(root, s, oneOf(c, ends()...), someBody(c, s))
		if !May(next) {
			t.Fatalf("Do tells %s, and\n%s", replyText(r), text(next))
		}
		next, r = Apply(root, s, someEntry(c, s))
		if !May(next) {
			t.Fatalf("Apply tells %s, and\n%s", replyText(r), text(next))
		}
	}
}

// may tells whether a token may change its tenant's space at a stamp, as P16.6's words have it.
func may(s State, stamp int, by api.Token) bool {
	own, is := Of(s, by.Tenant)
	if !is || minted(root, by.Tenant, by.Line...).Tag != by.Tag {
		return false
	}
	for _, g := range by.Line {
		if g.Rights&2 == 0 || g.Expiry <= stamp || slices.Contains(own.Revoked, g.Serial) {
			return false
		}
	}
	return true
}

// TestP16_6Right holds of each request that changes a space that its token may: but for an admin's OpCreate and OpResize, it changes its own tenant's alone.
func TestP16_6Right(t *testing.T) {
	c := rand.New(rand.NewSource(19))
	changed, left := 0, 0
	for range 6000 {
		s, q, by, stamp := someState(c), someRequest(c), someToken(c), oneOf(c, 0, 20, 50)
		if by.Tenant == 0 && q.Op < 6 {
			by = minted(root, 1+c.Intn(tenants), by.Line...)
		}
		next, r := Do(root, s, stamp, form(by, q))
		for number := range tenants + 1 {
			was, _ := Of(s, number)
			is, _ := Of(next, number)
			if space.Same(was.Space, is.Space) {
				left++
				continue
			}
			changed++
			admins := (q.Op == 6 || q.Op == 7) && by.Tenant == 0 && q.Tenant == number
			if own := q.Op >= 2 && q.Op <= 4 && by.Tenant == number; r.Err != 0 || !admins && !own || own && !may(s, stamp, by) || admins && minted(root, 0, by.Line...).Tag != by.Tag {
				t.Fatalf("%v, %v at %d in\n%stells %s, and\n%s", q, by, stamp, text(s), replyText(r), text(next))
			}
		}
	}
	if changed < 200 || left < 2000 {
		t.Error(changed, left)
	}
}

// TestP16_7Apart holds that what a tenant's token does and tells is the same, whatever is in others' spaces, and whatever their limits are.
func TestP16_7Apart(t *testing.T) {
	c := rand.New(rand.NewSource(20))
	done := 0
	for range 3000 {
		a, b := someState(c), someState(c)
		q, by := someRequest(c), someToken(c)
		if c.Intn(2) == 0 && len(a.Shares) > 0 {
			by = minted(root, a.Shares[c.Intn(len(a.Shares))].Tenant, by.Line...)
		}
		if c.Intn(3) > 0 {
			q = put(letter(c), "v")
		}
		x, is := Of(a, by.Tenant)
		if _, other := Of(b, by.Tenant); by.Tenant <= 0 || is != other {
			continue
		}
		m, _ := modelOf(b)
		if is {
			n, _ := modelOf(a)
			m.wards[by.Tenant] = n.wards[by.Tenant]
			b = m.laid()
		}
		stamp := oneOf(c, 0, 20, 50)
		ra, r := Do(root, a, stamp, form(by, q))
		rb, p := Do(root, b, stamp, form(by, q))
		if replyText(r) != replyText(p) {
			t.Fatalf("%v, %v tells %s in\n%sand %s in\n%s", q, by, replyText(r), text(a), replyText(p), text(b))
		}
		ya, _ := Of(ra, by.Tenant)
		yb, _ := Of(rb, by.Tenant)
		if tenantText(ya) != tenantText(yb) {
			t.Fatalf("%v, %v: %s, and %s", q, by, tenantText(ya), tenantText(yb))
		}
		if is && tenantText(x) != tenantText(ya) {
			done++
		}
		for number := range tenants + 1 {
			was, _ := Of(b, number)
			if now, _ := Of(rb, number); number != by.Tenant && tenantText(was) != tenantText(now) {
				t.Fatalf("%v, %v: %s, and then %s", q, by, tenantText(was), tenantText(now))
			}
		}
	}
	if done < 100 {
		t.Error(done)
	}
}

// TestP16_8Once holds that an entry that comes again does nothing, and is told the same, whatever has come between, and whatever its stamp and bytes are.
func TestP16_8Once(t *testing.T) {
	c := rand.New(rand.NewSource(21))
	for range 600 {
		s := someState(c)
		s.Pos = oneOf(c, 0, 5, clock-9)
		client, last := c.Intn(clients), replies.Last{}
		for _, x := range s.Lasts {
			if x.Client == client {
				last = x
			}
		}
		if last.ID == clock {
			continue
		}
		s, first := Apply(root, s, entry(s.Pos+1, client, last.ID+1, someBody(c, s)))
		if c.Intn(2) == 0 {
			s, _ = Apply(root, s, entry(s.Pos+1, (client+1)%clients, clock, someBody(c, s)))
		}
		for range 3 {
			next, r := Apply(root, s, api.Entry{Pos: s.Pos + 1, Stamp: c.Intn(99), Client: client, ID: last.ID + 1, Body: someBody(c, s)})
			s.Pos++
			if replyText(r) != replyText(first) || text(next) != text(s) {
				t.Fatalf("%s, then %s, and from\n%sto\n%s", replyText(first), replyText(r), text(s), text(next))
			}
		}
	}
}
