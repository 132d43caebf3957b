package space

import (
	"maps"
	"math"
	"math/rand"
	"slices"
	"strings"
	"testing"

	"seneschal/api"
)

// tells holds a space and an error that a call told.
func tells(t *testing.T, what string, got Space, f api.Errno, want Space, e api.Errno) {
	t.Helper()
	if f != e || !equal(got, want) {
		t.Fatalf("%s: %#v, error %d; not %#v, error %d", what, got, f, want, e)
	}
}

// gets, puts, swaps, dels, resizes hold what those calls tell.
func gets(t *testing.T, s Space, k, want string, e api.Errno) {
	t.Helper()
	if got, f := Get(s, k); got != want || f != e {
		t.Fatalf("Get %#v of %#v: %#v, error %d; not %#v, error %d", k, s, got, f, want, e)
	}
}

func puts(t *testing.T, s Space, k, v string, want Space, e api.Errno) {
	t.Helper()
	got, f := Put(s, k, v)
	tells(t, "Put "+k+" "+v, got, f, want, e)
}

func swaps(t *testing.T, s Space, k, old, v string, want Space, e api.Errno) {
	t.Helper()
	got, f := Swap(s, k, old, v)
	tells(t, "Swap "+k+" "+old+" "+v, got, f, want, e)
}

func dels(t *testing.T, s Space, k string, want Space, e api.Errno) {
	t.Helper()
	got, f := Del(s, k)
	tells(t, "Del "+k, got, f, want, e)
}

func resizes(t *testing.T, s Space, keys, bytes int, want Space, e api.Errno) {
	t.Helper()
	got, f := Resize(s, keys, bytes)
	tells(t, "Resize", got, f, want, e)
}

// lists holds what List tells.
func lists(t *testing.T, s Space, from string, n int, want ...string) {
	t.Helper()
	if got := List(s, from, n); !slices.Equal(got, want) {
		t.Fatalf("List %#v %d of %#v: %#v, not %#v", from, n, s, got, want)
	}
}

// uses holds what Used tells.
func uses(t *testing.T, s Space, keys, bytes int) {
	t.Helper()
	if k, b := Used(s); k != keys || b != bytes {
		t.Fatalf("Used of %#v: %d, %d; not %d, %d", s, k, b, keys, bytes)
	}
}

// holds holds what all calls tell against the model's.
func holds(t *testing.T, s Space, k, old, v string, n, keys, bytes int) {
	t.Helper()
	if May(s) != isSpace(s) {
		t.Fatalf("%#v: May tells %v", s, !isSpace(s))
	}
	told, e := modelGet(s, k)
	gets(t, s, k, told, e)
	want, e := modelPut(s, k, v)
	puts(t, s, k, v, want, e)
	want, e = modelSwap(s, k, old, v)
	swaps(t, s, k, old, v, want, e)
	want, e = modelDel(s, k)
	dels(t, s, k, want, e)
	want, e = modelResize(s, keys, bytes)
	resizes(t, s, keys, bytes, want, e)
	lists(t, s, k, n, modelList(s, k, n)...)
	usedKeys, usedBytes := amounts(s.Pairs)
	if !isSpace(s) {
		usedKeys, usedBytes = 0, 0
	}
	uses(t, s, usedKeys, usedBytes)
}

// isNone holds what all calls tell of what is no space: also of keys, values and limits that may be, and that may not.
func isNone(t *testing.T, s Space) {
	t.Helper()
	if May(s) {
		t.Errorf("%#v: a space", s)
	}
	for _, k := range []string{"a", "zz", "", strings.Repeat("k", longKey+1)} {
		gets(t, s, k, "", api.ErrArg)
		dels(t, s, k, Space{}, api.ErrArg)
		lists(t, s, k, 5)
		for _, v := range []string{"", "1", strings.Repeat("v", longValue+1)} {
			puts(t, s, k, v, Space{}, api.ErrArg)
			swaps(t, s, k, "1", v, Space{}, api.ErrArg)
		}
	}
	lists(t, s, "", math.MaxInt)
	uses(t, s, 0, 0)
	resizes(t, s, mostKeys, mostBytes, Space{}, api.ErrArg)
	resizes(t, s, 0, 0, Space{}, api.ErrArg)
	resizes(t, s, -1, 0, Space{}, api.ErrArg)
}

func TestP11_1New(t *testing.T) {
	for _, keys := range ends() {
		for _, bytes := range ends() {
			want, e := Space{}, api.ErrArg
			if mayLimits(keys, bytes) {
				want, e = of(keys, bytes), api.OK
			}
			got, f := New(keys, bytes)
			tells(t, "New", got, f, want, e)
			if len(got.Pairs) != 0 || May(of(keys, bytes)) != (e == api.OK) {
				t.Fatalf("%d, %d: not an empty space, or not a space", keys, bytes)
			}
			if e != api.OK {
				isNone(t, of(keys, bytes))
				resizes(t, Space{}, keys, bytes, Space{}, api.ErrArg)
			}
		}
	}
	for keys := range mostKeys + 1 {
		got, e := New(keys, mostBytes-keys)
		tells(t, "New", got, e, of(keys, mostBytes-keys), api.OK)
	}
}

func TestP11_1May(t *testing.T) {
	key, value := strings.Repeat("k", longKey), strings.Repeat("v", longValue)
	for _, s := range []Space{
		{}, of(0, mostBytes), of(mostKeys, 0), of(1, 1, "a", ""), of(2, 10, "a", "123", "b", "4567"), of(2, 2, "a", "", "b", ""), wide("a", "", "aa", "", "ab", "", "b", ""),
		wide("\x00", "", "\x00\x00", "", "\x01", "", "\x7f", "", "\x80", "", "\xff", ""), wide(key, value), of(1, longKey+longValue, key, value), wide("\xff", "", "\xff\x00", ""),
		full(), many(mostKeys, ""), wide("Z", "", "a", ""), wide("z", "", "\xc3\xa9", ""), wide("\uffff", "", "\U00010000", ""), wide("a", "", "a\x00", ""), wide("a", "1", "b", "1"),
	} {
		if !May(s) {
			t.Errorf("%#v: no space", s)
		}
	}
	for _, s := range []Space{
		of(0, 10, "a", ""), of(1, 0, "a", ""), of(1, 10, "a", "", "b", ""), of(2, 1, "a", "", "b", ""), of(2, 9, "a", "1234", "b", "5678"), of(1, 3, "a", "123"), of(1, 3, "abcd", ""),
		wide("b", "", "a", ""), wide("a", "", "a", ""), wide("a", "1", "a", "2"), wide("a", "1", "b", "", "a", "2"), wide("", ""), wide("", "", "a", ""), wide("a", "", "", ""), wide("ab", "", "a", ""), wide("\x80", "", "\x7f", ""), wide("\xff", "", "a", ""),
		wide(key+"k", ""), wide("a", value+"v"), wide("a", "", "b", value+"v", "c", ""), wide("a", "", key+"k", "", "l", ""), of(1, longKey+longValue-1, key, value), many(mostKeys+1, ""),
		wide("a", "", "c", "", "b", ""), wide("b", "", "a", "", "c", ""), wide("b", "", "c", "", "b", ""), wide("a", "", "Z", ""), wide("\U00010000", "", "\uffff", ""), wide("\xc3\xa9", "", "z", ""),
		{Keys: -1}, {Bytes: -1}, {Keys: mostKeys + 1}, {Bytes: mostBytes + 1}, {Keys: math.MinInt, Bytes: math.MaxInt}, of(-1, 10, "a", ""), of(mostKeys+1, 10, "a", ""), of(3, mostBytes+1, "a", ""),
	} {
		isNone(t, s)
	}
	over := full()
	over.Pairs[9].Value += "v"
	isNone(t, over)
	over = full()
	over.Keys, over.Bytes = mostKeys+1, mostBytes+88
	isNone(t, over)
	over.Pairs = append(over.Pairs, Pair{"z", ""})
	isNone(t, over)
}

// TestP11_1EachLength holds what a key, and a value, of each length is: in the space, and handed in.
func TestP11_1EachLength(t *testing.T) {
	for k := range longKey + 4 {
		for v := range longValue + 4 {
			key, value := strings.Repeat("\xff", k), strings.Repeat("\x00", v)
			s := of(3, k+v+1, "\x00", "", key, value)
			holds(t, s, key, value, value, 2, 3, 3)
			holds(t, wide("a", "1"), key, value, value, 2, 3, 3)
			holds(t, wide("a", value), "a", value, value, 2, 3, 3)
		}
	}
}

// TestP11_1EachPlace holds that one pair that is otherwise makes a space none, wherever it stands, and however many there are.
func TestP11_1EachPlace(t *testing.T) {
	others := []Pair{{"", ""}, {name(0) + "x", ""}, {name(10) + "x", ""}, {"\xff", ""}, {strings.Repeat("\x00", longKey+1), ""}, {name(7), "1"}, {"\x00", strings.Repeat("v", longValue+1)}}
	for _, n := range []int{1, 2, 3, 20, mostKeys - 1, mostKeys} {
		for at := range n {
			for _, p := range others {
				s := many(n, "v")
				s.Pairs[at] = p
				if May(s) != isSpace(s) {
					t.Fatalf("%q at %d of %d: not %v", p, at, n, isSpace(s))
				}
				s.Pairs = slices.Insert(many(n, "v").Pairs, at, p)
				if May(s) != isSpace(s) {
					t.Fatalf("%q ahead of %d of %d: not %v", p, at, n, isSpace(s))
				}
			}
		}
	}
}

// TestP11_1EachTwo holds which of all texts of up to two of some bytes may stand behind which.
func TestP11_1EachTwo(t *testing.T) {
	texts := []string{""}
	for _, a := range []byte("\x00\x01a\x7f\x80\xff") {
		texts = append(texts, string([]byte{a}))
		for _, b := range []byte("\x00\x01a\x7f\x80\xff") {
			texts = append(texts, string([]byte{a, b}))
		}
	}
	for _, a := range texts {
		for _, b := range texts {
			want := a != "" && b != "" && less(a, b)
			if May(wide(a, "1", b, "2")) != want || May(wide(a, "1", b, "1")) != want {
				t.Errorf("%q, %q: not %v", a, b, want)
			}
			if want {
				holds(t, wide(a, "1", b, "2"), b, "2", "3", 2, 2, 9)
				puts(t, wide(b, "2"), a, "1", wide(a, "1", b, "2"), api.OK)
				puts(t, wide(a, "1"), b, "2", wide(a, "1", b, "2"), api.OK)
				lists(t, wide(a, "1"), b, 9)
				lists(t, wide(b, "1"), a, 9, b)
			}
		}
	}
}

func TestP11_1Resize(t *testing.T) {
	s := of(3, 20, "a", "123", "b", "4567")
	for _, l := range [][2]int{{3, 20}, {2, 20}, {3, 9}, {2, 9}, {mostKeys, mostBytes}, {2, mostBytes}, {mostKeys, 9}} {
		resizes(t, s, l[0], l[1], of(l[0], l[1], "a", "123", "b", "4567"), api.OK)
	}
	for _, l := range [][2]int{{1, 20}, {0, 20}, {3, 8}, {3, 0}, {1, 8}, {0, 0}, {1, mostBytes}, {mostKeys, 8}} {
		resizes(t, s, l[0], l[1], Space{}, api.ErrQuota)
	}
	for _, keys := range ends() {
		for _, bytes := range ends() {
			want, e := modelResize(s, keys, bytes)
			resizes(t, s, keys, bytes, want, e)
			want, e = modelResize(full(), keys, bytes)
			resizes(t, full(), keys, bytes, want, e)
		}
	}
	for keys := range 5 {
		for bytes := range 24 {
			want, e := modelResize(s, keys, bytes)
			resizes(t, s, keys, bytes, want, e)
		}
	}
}

func TestP11_2Examples(t *testing.T) {
	s, e := New(2, 10)
	tells(t, "New", s, e, of(2, 10), api.OK)
	puts(t, s, "a", "123", of(2, 10, "a", "123"), api.OK)
	s = of(2, 10, "a", "123")
	puts(t, s, "b", "4567", of(2, 10, "a", "123", "b", "4567"), api.OK)
	puts(t, of(2, 10, "a", "123", "b", "4567"), "c", "", Space{}, api.ErrQuota)
	puts(t, s, "a", "12345678", of(2, 10, "a", "12345678"), api.OK)
	puts(t, s, "a", "123456789", of(2, 10, "a", "123456789"), api.OK)
	puts(t, s, "a", "1234567890", Space{}, api.ErrQuota)
	s = of(2, 10, "a", "1")
	swaps(t, s, "a", "2", "3", Space{}, api.ErrOld)
	swaps(t, s, "b", "1", "3", Space{}, api.ErrKey)
	swaps(t, s, "a", "1", "3", of(2, 10, "a", "3"), api.OK)
	gets(t, s, "a", "1", api.OK)
	gets(t, s, "b", "", api.ErrKey)
	dels(t, s, "a", of(2, 10), api.OK)
	dels(t, s, "b", Space{}, api.ErrKey)
}

// TestP11_2Fifth holds the document's tenth example: a fifth key in a space of four.
func TestP11_2Fifth(t *testing.T) {
	s := of(4, 100, "a", "1", "b", "2", "c", "3", "d", "4")
	for _, k := range []string{"e", "A", "ab", "cc"} {
		puts(t, s, k, "", Space{}, api.ErrQuota)
	}
	for i, p := range s.Pairs {
		want := copied(s)
		want.Pairs[i].Value = "other"
		puts(t, s, p.Key, "other", want, api.OK)
	}
}

// TestP11_2FirstError holds which of several errors is told: no space, key, value; no such key; another value; too much.
func TestP11_2FirstError(t *testing.T) {
	key, value := strings.Repeat("k", longKey+1), strings.Repeat("v", longValue+1)
	s := of(1, 3, "a", "12")
	for _, k := range []string{"", key} {
		gets(t, s, k, "", api.ErrArg)
		dels(t, s, k, Space{}, api.ErrArg)
		puts(t, s, k, "123", Space{}, api.ErrArg)
		swaps(t, s, k, "9", "123", Space{}, api.ErrArg)
	}
	puts(t, s, "a", value, Space{}, api.ErrArg)
	puts(t, s, "b", value, Space{}, api.ErrArg)
	swaps(t, s, "a", "12", value, Space{}, api.ErrArg)
	swaps(t, s, "a", "9", value, Space{}, api.ErrArg)
	swaps(t, s, "b", "9", value, Space{}, api.ErrArg)
	swaps(t, s, "b", "9", "123", Space{}, api.ErrKey)
	swaps(t, s, "b", "12", "", Space{}, api.ErrKey)
	swaps(t, s, "b", "", "", Space{}, api.ErrKey)
	swaps(t, s, "a", "9", "123", Space{}, api.ErrOld)
	swaps(t, s, "a", "9", "12", Space{}, api.ErrOld)
	swaps(t, s, "a", "12", "123", Space{}, api.ErrQuota)
	swaps(t, s, "a", "12", "", of(1, 3, "a", ""), api.OK)
	puts(t, s, "b", "", Space{}, api.ErrQuota)
	puts(t, s, "a", "123", Space{}, api.ErrQuota)
	puts(t, Space{}, "a", "", Space{}, api.ErrQuota)
	dels(t, Space{}, "a", Space{}, api.ErrKey)
	gets(t, Space{}, "a", "", api.ErrKey)
	swaps(t, Space{}, "a", "", "", Space{}, api.ErrKey)
	isNone(t, of(1, 2, "a", "12"))
}

// TestP11_2OldIsAnyText holds that old is whatever text: also one that is no value.
func TestP11_2OldIsAnyText(t *testing.T) {
	s := wide("a", "1", "b", "", "c", "\xff\x00")
	for _, old := range []string{"", "2", "11", "1\x00", strings.Repeat("1", longValue), strings.Repeat("1", longValue+1), strings.Repeat("1", 100000), "\xff", "a"} {
		swaps(t, s, "a", old, "3", Space{}, api.ErrOld)
		swaps(t, s, "d", old, "3", Space{}, api.ErrKey)
		swaps(t, s, "", old, "3", Space{}, api.ErrArg)
	}
	swaps(t, s, "b", "", "3", wide("a", "1", "b", "3", "c", "\xff\x00"), api.OK)
	swaps(t, s, "c", "\xff\x00", "3", wide("a", "1", "b", "", "c", "3"), api.OK)
	swaps(t, s, "a", "1", "1", s, api.OK)
	long := strings.Repeat("v", longValue)
	swaps(t, wide("a", long), "a", long, "", wide("a", ""), api.OK)
	swaps(t, wide("a", ""), "a", "", long, wide("a", long), api.OK)
}

// TestP11_2Full holds it of spaces that are full: by keys, by bytes, by both.
func TestP11_2Full(t *testing.T) {
	for _, s := range []Space{full(), many(mostKeys, ""), many(mostKeys, "12"), many(mostKeys-1, strings.Repeat("v", 62)), many(mostKeys-1, ""), of(2, 6, "b", "12", "d", "34"), of(2, 9, "b", "12", "d", "34"), of(3, 6, "b", "12", "d", "34")} {
		for _, k := range []string{name(0), name(1), name(40), name(62), name(63), name(64), "\x00", "\xff", "a", "b", "c", "d", "e"} {
			for _, v := range []string{"", "1", "12", "123", strings.Repeat("v", 60), strings.Repeat("v", 61), strings.Repeat("v", 62), strings.Repeat("v", 63), strings.Repeat("v", 64)} {
				holds(t, s, k, "12", v, 3, 3, 6)
				holds(t, s, k, strings.Repeat("v", 62), v, 3, mostKeys, mostBytes)
			}
		}
	}
}

// small tells all spaces of these limits of the keys a, b, c with values of up to one byte.
func small(keys, bytes int) []Space {
	var l []Space
	for n := range 64 {
		s := of(keys, bytes)
		for i, k := range []string{"a", "b", "c"} {
			if v := n >> (2 * i) % 4; v > 0 {
				s.Pairs = append(s.Pairs, Pair{k, []string{"", "1", "2"}[v-1]})
			}
		}
		l = append(l, s)
	}
	return l
}

// TestP11_2EachSmall holds what all calls tell of all small spaces, those that may not be among them.
func TestP11_2EachSmall(t *testing.T) {
	for keys := range 5 {
		for bytes := range 8 {
			for i, s := range small(keys, bytes) {
				for _, k := range []string{"", "a", "aa", "b", "c", "d"} {
					for _, v := range []string{"", "1", "12"} {
						for _, old := range []string{"", "1", "2"} {
							holds(t, s, k, old, v, i%5-1, i%4, i%7)
						}
					}
				}
			}
		}
	}
}

func TestP11_2ByChance(t *testing.T) {
	c := rand.New(rand.NewSource(1))
	met := map[api.Errno]int{}
	for range 30000 {
		s := perhaps(c)
		k, old, v := text(c, 3)+"k", text(c, 3), text(c, 9)
		if len(s.Pairs) > 0 && c.Intn(2) == 0 {
			p := s.Pairs[c.Intn(len(s.Pairs))]
			k = p.Key
			if c.Intn(3) > 0 {
				old = p.Value
			}
		}
		switch c.Intn(20) {
		case 0:
			k = text(c, 40)
		case 1:
			v = text(c, 90)
		}
		_, e := modelSwap(s, k, old, v)
		met[e]++
		holds(t, s, k, old, v, c.Intn(12)-1, c.Intn(12), c.Intn(70))
	}
	for _, e := range []api.Errno{api.OK, api.ErrArg, api.ErrKey, api.ErrOld, api.ErrQuota} {
		if met[e] < 300 {
			t.Errorf("error %d: %d times", e, met[e])
		}
	}
}

// TestP11_2LongLines holds long lines of calls against a map.
func TestP11_2LongLines(t *testing.T) {
	c := rand.New(rand.NewSource(2))
	for range 60 {
		s, _ := New(c.Intn(20), c.Intn(200))
		for range 200 {
			next, e := Space{}, api.OK
			want, f := Space{}, api.OK
			k, v := string(rune('a'+c.Intn(20))), text(c, 12)
			old := table(s)[k]
			switch c.Intn(6) {
			case 0, 1, 2:
				next, e = Put(s, k, v)
				want, f = modelPut(s, k, v)
			case 3:
				next, e = Swap(s, k, old, v)
				want, f = modelSwap(s, k, old, v)
			case 4:
				next, e = Del(s, k)
				want, f = modelDel(s, k)
			default:
				keys, bytes := c.Intn(20), c.Intn(200)
				next, e = Resize(s, keys, bytes)
				want, f = modelResize(s, keys, bytes)
			}
			tells(t, k+" "+v, next, e, want, f)
			if e == api.OK {
				s = next
			}
			if !May(s) {
				t.Fatalf("%#v: no space any more", s)
			}
		}
	}
}

func TestP11_3Examples(t *testing.T) {
	s := of(2, 10, "b", "1")
	s, e := Put(s, "a", "2")
	tells(t, "Put", s, e, of(2, 10, "a", "2", "b", "1"), api.OK)
	lists(t, s, "", 1, "a")
	lists(t, s, "b", 9, "b")
	uses(t, s, 2, 4)
}

// TestP11_3FromAnyText holds that the text from which keys are listed may be any, also one that is no key.
func TestP11_3FromAnyText(t *testing.T) {
	long := strings.Repeat("b", longKey)
	s := wide("a", "", "b", "", long, "1", "c", "", "\xff", "")
	lists(t, s, "", 9, "a", "b", long, "c", "\xff")
	lists(t, s, "\x00", 9, "a", "b", long, "c", "\xff")
	lists(t, s, "a", 9, "a", "b", long, "c", "\xff")
	lists(t, s, "a\x00", 9, "b", long, "c", "\xff")
	lists(t, s, "b", 2, "b", long)
	lists(t, s, long, 9, long, "c", "\xff")
	lists(t, s, long+"b", 9, "c", "\xff")
	lists(t, s, long+strings.Repeat("b", 100000), 1, "c")
	lists(t, s, "c", 1, "c")
	lists(t, s, "d", 9, "\xff")
	lists(t, s, "\xff", 9, "\xff")
	lists(t, s, "\xff\x00", 9)
	lists(t, s, strings.Repeat("\xff", 100), 9)
	lists(t, Space{}, "", 9)
	lists(t, wide(), "a", 9)
}

// TestP11_3EachCount holds the first n keys, from each one on, for each n.
func TestP11_3EachCount(t *testing.T) {
	for _, n := range []int{0, 1, 2, 5, mostKeys} {
		s := many(n, "v")
		var all []string
		for i := range n {
			all = append(all, name(i))
		}
		for at := range n + 1 {
			for _, count := range []int{math.MinInt, math.MinInt + 1, -mostKeys, -1, 0, 1, 2, 3, n - at - 1, n - at, n - at + 1, mostKeys, mostKeys + 1, math.MaxInt32, math.MaxInt - n, math.MaxInt - at, math.MaxInt - 1, math.MaxInt} {
				want := all[at:]
				if count < len(want) {
					want = want[:max(count, 0)]
				}
				lists(t, s, name(at), count, want...)
				if at > 0 {
					lists(t, s, name(at-1)+"\x00", count, want...)
				} else {
					lists(t, s, "", count, want...)
				}
			}
		}
		uses(t, s, n, 3*n)
	}
	uses(t, full(), mostKeys, mostBytes)
	uses(t, Space{}, 0, 0)
	uses(t, wide(strings.Repeat("k", longKey), strings.Repeat("v", longValue)), 1, longKey+longValue)
	uses(t, wide("\xc3\xa9", "\xe2\x82\xac"), 1, 5)
}

func TestP11_4Same(t *testing.T) {
	l := []Space{
		{}, of(1, 0), of(0, 1), of(1, 1), of(2, 10, "a", "1"), of(3, 10, "a", "1"), of(2, 11, "a", "1"), of(10, 2, "a", "1"), of(2, 10, "b", "1"), of(2, 10, "a", "2"), of(2, 10, "a", ""), of(2, 10, "a1", ""), of(2, 10), of(2, 10, "a", "1", "b", "2"), of(2, 10, "a", "2", "b", "1"), of(2, 10, "a", "1", "c", "2"),
		of(2, 10, "a", "1", "a", "1"), of(2, 10, "b", "2", "a", "1"), of(-1, 10, "a", "1"), of(2, math.MinInt, "a", "1"), of(2, 10, "", ""), wide(strings.Repeat("k", 99), ""), full(), many(mostKeys-1, strings.Repeat("v", 62)), many(mostKeys+1, strings.Repeat("v", 62)), of(2, 10, "1", "a"),
	}
	for i, a := range l {
		for j, b := range l {
			if Same(a, copied(b)) != (i == j) {
				t.Errorf("%#v, %#v: not %v", a, b, i == j)
			}
		}
	}
	last := full()
	last.Pairs[mostKeys-1].Value = strings.Repeat("w", 62)
	if Same(last, full()) || Same(full(), last) || !Same(last, copied(last)) {
		t.Errorf("the last pair doesn't count")
	}
}

func TestP11_4ByChance(t *testing.T) {
	c := rand.New(rand.NewSource(3))
	met := 0
	for range 20000 {
		a := someSpace(c, 2)
		a.Keys, a.Bytes = c.Intn(2), c.Intn(2)
		b := someSpace(c, 2)
		b.Keys, b.Bytes = c.Intn(2), c.Intn(2)
		if c.Intn(2) == 0 {
			b.Pairs = copied(a).Pairs
		}
		if Same(a, b) != equal(a, b) || Same(b, a) != equal(a, b) {
			t.Fatalf("%#v, %#v: not %v", a, b, equal(a, b))
		}
		if equal(a, b) {
			met++
		}
	}
	if met < 1000 || met > 19000 {
		t.Errorf("%d of 20000 are the same", met)
	}
}

// TestP11_5OneKey holds that behind Put, Swap, Del all other keys are as they were, and the limits.
func TestP11_5OneKey(t *testing.T) {
	c := rand.New(rand.NewSource(4))
	done := 0
	for range 10000 {
		s := someSpace(c, 12)
		k := text(c, 3) + "k"
		if len(s.Pairs) > 0 && c.Intn(3) > 0 {
			k = s.Pairs[c.Intn(len(s.Pairs))].Key
		}
		v := text(c, 9)
		put, e := Put(s, k, v)
		swapped, f := Swap(s, k, table(s)[k], v)
		deleted, g := Del(s, k)
		for i, x := range []Space{put, swapped, deleted} {
			if []api.Errno{e, f, g}[i] != api.OK {
				continue
			}
			done++
			others, left := table(s), table(x)
			delete(others, k)
			if there := left[k]; i < 2 && there != v {
				t.Fatalf("%#v: %#v has %#v, not %#v", s, k, there, v)
			}
			delete(left, k)
			if !maps.Equal(others, left) || x.Keys != s.Keys || x.Bytes != s.Bytes || !May(x) {
				t.Fatalf("%#v: behind %#v it is %#v", s, k, x)
			}
		}
		if _, there := table(deleted)[k]; there {
			t.Fatalf("%#v: %#v is there yet", s, k)
		}
	}
	if done < 10000 {
		t.Errorf("%d calls were OK", done)
	}
}

// TestP11_6InWhateverOrder holds that puts of unlike keys lead to the same in all orders, if each may be in them.
func TestP11_6InWhateverOrder(t *testing.T) {
	c := rand.New(rand.NewSource(5))
	for range 500 {
		s := someSpace(c, 9)
		s.Keys, s.Bytes = mostKeys, mostBytes
		m := map[string]string{}
		for range 1 + c.Intn(9) {
			m[text(c, 2)+"k"] = text(c, 9)
		}
		if len(s.Pairs) > 0 {
			m[s.Pairs[0].Key] = text(c, 9)
		}
		whole := table(s)
		maps.Copy(whole, m)
		want, _ := laid(mostKeys, mostBytes, whole)
		keys := slices.Sorted(maps.Keys(m))
		for range 4 {
			c.Shuffle(len(keys), func(i, j int) { keys[i], keys[j] = keys[j], keys[i] })
			x := s
			for _, k := range keys {
				next, e := Put(x, k, m[k])
				if e != api.OK {
					t.Fatalf("%#v, Put %#v: error %d", x, k, e)
				}
				x = next
			}
			if !Same(x, want) || !equal(x, want) {
				t.Fatalf("%#v, in the order %#v: %#v, not %#v", s, keys, x, want)
			}
		}
	}
}

// TestP11_6EachTwo holds it of all two puts upon all small spaces: if both may be in either order, they lead to the same.
func TestP11_6EachTwo(t *testing.T) {
	puts := []Pair{{"a", ""}, {"a", "9"}, {"aa", ""}, {"b", "99"}, {"bb", "9"}, {"c", ""}, {"d", "9"}}
	for keys := range 4 {
		for bytes := range 8 {
			for _, s := range small(keys, bytes) {
				for _, p := range puts {
					for _, q := range puts {
						x, e := two(s, p, q)
						y, f := two(s, q, p)
						if p.Key != q.Key && e == api.OK && f == api.OK && !Same(x, y) {
							t.Fatalf("%#v: %#v and %#v lead to %#v, and %#v", s, p, q, x, y)
						}
					}
				}
			}
		}
	}
}

// two tells the space behind two puts.
func two(s Space, p, q Pair) (Space, api.Errno) {
	x, e := Put(s, p.Key, p.Value)
	if e != api.OK {
		return x, e
	}
	return Put(x, q.Key, q.Value)
}
