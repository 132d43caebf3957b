package pending

import (
	"fmt"
	"math"
	"slices"
	"strings"
	"testing"
)

// puts holds that a list tells yes, or no, of each of these.
func puts(t *testing.T, l *List[int, string], want bool, k int, v string) {
	t.Helper()
	if l.Put(k, v) != want {
		t.Fatalf("Put of %d, %q: %v", k, v, !want)
	}
}

// has holds what Get tells.
func has(t *testing.T, l *List[int, string], k int, want string, there bool) {
	t.Helper()
	if v, is := l.Get(k); v != want || is != there {
		t.Fatalf("Get of %d: %q, %v; not %q, %v", k, v, is, want, there)
	}
}

// takes holds what Take tells.
func takes(t *testing.T, l *List[int, string], k int, want string, there bool) {
	t.Helper()
	if v, is := l.Take(k); v != want || is != there {
		t.Fatalf("Take of %d: %q, %v; not %q, %v", k, v, is, want, there)
	}
}

// keysAre holds which keys a list has, in order, and whether it is full.
func keysAre[K comparable, V any](t *testing.T, l *List[K, V], full bool, want ...K) {
	t.Helper()
	for _, n := range someOf(len(want)) {
		if got := l.First(n); !sameKeys(got, want[:min(max(n, 0), len(want))]) {
			t.Fatalf("First of %d: %v, of %v", n, got, want)
		}
	}
	if l.Len() != len(want) || l.Full() != full {
		t.Fatalf("Len %d, Full %v, of %v", l.Len(), l.Full(), want)
	}
}

// filled tells a list of texts of so many, with these keys, each with itself as its value.
func filled(t *testing.T, most int, keys ...int) *List[int, string] {
	t.Helper()
	l := Texts(most)
	for _, k := range keys {
		puts(t, l, true, k, fmt.Sprint(k))
	}
	return l
}

// upTo tells the numbers from the first one on, so many.
func upTo(first, n int) []int {
	var l []int
	for i := range n {
		l = append(l, first+i)
	}
	return l
}

func TestP21_1Examples(t *testing.T) {
	for name, l := range map[string]*List[int, string]{"New": New[int, string](2), "Texts": Texts(2)} {
		t.Run(name, func(t *testing.T) {
			puts(t, l, true, 5, "a")
			puts(t, l, true, 3, "b")
			puts(t, l, false, 9, "c")
			puts(t, l, true, 5, "d")
			keysAre(t, l, true, 5, 3)
			has(t, l, 5, "d", true)
			takes(t, l, 5, "d", true)
			takes(t, l, 5, "", false)
			puts(t, l, true, 9, "c")
			if got := l.First(1); !slices.Equal(got, []int{3}) {
				t.Errorf("First of 1: %v", got)
			}
			keysAre(t, l, true, 3, 9)
		})
	}
}

// TestP21_1AtFirst holds that a new list has no keys, and may have so many, none of a number below 0.
func TestP21_1AtFirst(t *testing.T) {
	for _, most := range mosts() {
		for name, l := range map[string]*List[int, string]{"New": New[int, string](most), "Texts": Texts(most)} {
			keysAre(t, l, most <= 0)
			for _, k := range []int{0, 1, -1, math.MinInt, math.MaxInt} {
				has(t, l, k, "", false)
				takes(t, l, k, "", false)
			}
			room := min(max(most, 0), 50)
			for k := range room {
				puts(t, l, true, k, name)
				keysAre(t, l, k+1 >= most, upTo(0, k+1)...)
			}
			puts(t, l, room < most, room, name)
			if l.Len() != min(max(most, 0), 51) {
				t.Errorf("%s of %d: Len %d", name, most, l.Len())
			}
		}
	}
}

// TestP21_1Kinds holds that keys and values may be of any kind, of lists that New is told the kinds of.
func TestP21_1Kinds(t *testing.T) {
	for name, of := range kinds() {
		t.Run(name, func(t *testing.T) {
			for _, most := range mosts() {
				for seed := range 8 {
					of(t, seed, most)
				}
			}
		})
	}
	var texts *List[int, string] = Texts(1)
	keysAre(t, texts, false)
	values(t, []byte{1}, []byte(nil), []byte{}, []byte{2, 3})
	values(t, []int{1}, nil, []int{2})
	values(t, map[int]int{1: 2}, nil)
	values(t, [][]byte{{1}, nil, {2, 3}}, nil)
	values[any](t, nil, 1, "1", []byte{1}, []int{1}, [1]byte{1}, error(nil))
	values(t, struct{}{}, struct{}{})
	values(t, pair{1, 2}, pair{})
	values(t, "", "a", strings.Repeat("a", 1<<16))
	values(t, math.NaN(), 0, math.Inf(1))
	values[error](t, nil, text("a"))
	values(t, Texts(1), nil)
}

// text is an error that is a text.
type text string

func (x text) Error() string { return string(x) }

// values holds that all of these may be a key's value, each of its own key, and each behind another one.
func values[V any](t *testing.T, l ...V) {
	t.Helper()
	x, keys := New[int, V](len(l)), upTo(0, len(l))
	same := func(got V, is bool, want V) {
		t.Helper()
		if a, b := fmt.Sprintf("%#v", got), fmt.Sprintf("%#v", want); !is || a != b {
			t.Fatalf("%s, %v; not %s", a, is, b)
		}
	}
	for round := range len(l) {
		for _, k := range keys {
			if !x.Put(k, l[(k+round)%len(l)]) {
				t.Fatalf("Put of %d", k)
			}
		}
		keysAre(t, x, true, keys...)
		for _, k := range keys {
			v, is := x.Get(k)
			same(v, is, l[(k+round)%len(l)])
		}
	}
	for _, k := range keys {
		v, is := x.Take(k)
		same(v, is, l[(k+len(l)-1)%len(l)])
		keysAre(t, x, false, keys[k+1:]...)
	}
}

// TestP21_2There holds that a key that is there gets the value at its place, also in a list that is full.
func TestP21_2There(t *testing.T) {
	for n := 1; n <= 5; n++ {
		for _, most := range []int{n, n + 1, 100} {
			for at := range n {
				l := filled(t, most, upTo(1, n)...)
				for _, v := range []string{"x", "", "x", "y"} {
					puts(t, l, true, at+1, v)
					keysAre(t, l, n == most, upTo(1, n)...)
					for i := range n {
						if i == at {
							has(t, l, i+1, v, true)
						} else {
							has(t, l, i+1, fmt.Sprint(i+1), true)
						}
					}
				}
			}
		}
	}
}

// TestP21_2Full holds that a list that is full takes no key more, and stays as it was, till one is taken out of it.
func TestP21_2Full(t *testing.T) {
	for n := range 6 {
		keys := upTo(10, n)
		l := filled(t, n, keys...)
		for _, k := range []int{0, 1, 9, 10 + n, -10, math.MinInt, math.MaxInt} {
			puts(t, l, false, k, "x")
			has(t, l, k, "", false)
			takes(t, l, k, "", false)
			keysAre(t, l, true, keys...)
		}
		for i := range n {
			takes(t, l, 10+i, fmt.Sprint(10+i), true)
			puts(t, l, true, 20+i, "x")
			puts(t, l, false, 10+i, "y")
		}
		keysAre(t, l, true, upTo(20, n)...)
	}
}

// TestP21_2Behind holds that a key that isn't there comes behind all others, whatever it is, one that was there and was taken, too.
func TestP21_2Behind(t *testing.T) {
	l, keys := Texts(100), []int{}
	for _, k := range []int{5, -5, 0, 7, math.MaxInt, math.MinInt, 6, 1} {
		puts(t, l, true, k, fmt.Sprint(k))
		keys = append(keys, k)
		keysAre(t, l, false, keys...)
	}
	for range 20 {
		for at := range keys {
			k := keys[at]
			takes(t, l, k, fmt.Sprint(k), true)
			puts(t, l, true, k, fmt.Sprint(k))
			keys = append(slices.Delete(slices.Clone(keys), at, at+1), k)
			keysAre(t, l, false, keys...)
		}
	}
}

// TestP21_3Get holds that asking for a value leaves it there, and that a key that isn't there has none.
func TestP21_3Get(t *testing.T) {
	l := filled(t, 9, 3, 1, 2)
	for range 3 {
		for _, k := range []int{1, 2, 3} {
			has(t, l, k, fmt.Sprint(k), true)
		}
		for _, k := range []int{0, 4, -1, 1 + 1<<32, math.MinInt, math.MaxInt} {
			has(t, l, k, "", false)
		}
		keysAre(t, l, false, 3, 1, 2)
	}
	puts(t, l, true, 0, "")
	has(t, l, 0, "", true)
}

// TestP21_3Take holds that a key that is taken is there no more, and that all others are, wherever it stood.
func TestP21_3Take(t *testing.T) {
	for n := 1; n <= 6; n++ {
		for at := range n {
			l := filled(t, n, upTo(1, n)...)
			takes(t, l, at+1, fmt.Sprint(at+1), true)
			left := slices.Delete(upTo(1, n), at, at+1)
			for range 2 {
				keysAre(t, l, false, left...)
				has(t, l, at+1, "", false)
				takes(t, l, at+1, "", false)
			}
			for _, k := range left {
				has(t, l, k, fmt.Sprint(k), true)
			}
		}
	}
	l := Texts(1)
	puts(t, l, true, 0, "")
	takes(t, l, 0, "", true)
	takes(t, l, 0, "", false)
	keysAre(t, l, false)
}

// TestP21_4First holds that as many keys are told as are asked for, if there are so many.
func TestP21_4First(t *testing.T) {
	keys := []int{9, 2, 7, 4, 5}
	l := filled(t, 5, keys...)
	for n := -3; n <= 8; n++ {
		if got := l.First(n); !slices.Equal(got, keys[:min(max(n, 0), 5)]) {
			t.Errorf("First of %d: %v", n, got)
		}
	}
	for _, n := range []int{math.MinInt, math.MinInt32, math.MaxInt32, math.MaxInt32 + 1, math.MaxInt} {
		if got := l.First(n); n > 0 != slices.Equal(got, keys) {
			t.Errorf("First of %d: %v", n, got)
		}
	}
}

// TestP21_4Counts holds how many keys there are, and whether there are as many as may be, on the way up and down.
func TestP21_4Counts(t *testing.T) {
	for _, most := range []int{1, 2, 3, 64, 1000} {
		l := Texts(most)
		counts := func(n int) {
			t.Helper()
			if l.Len() != n || l.Full() != (n == most) {
				t.Fatalf("most %d: Len %d, Full %v, of %d", most, l.Len(), l.Full(), n)
			}
		}
		for k := range most {
			counts(k)
			puts(t, l, true, k, "")
			puts(t, l, true, k, "again")
			counts(k + 1)
		}
		puts(t, l, false, most, "")
		for k := range most {
			counts(most - k)
			takes(t, l, k, "again", true)
			takes(t, l, k, "", false)
			counts(most - k - 1)
			puts(t, l, true, -1, "")
			puts(t, l, k > 0, -2, "") // at first the list is full again
			counts(min(most-k+1, most))
			takes(t, l, -1, "", true)
			takes(t, l, -2, "", k > 0)
			counts(most - k - 1)
		}
	}
}

// TestP21_5InOrder holds all lines of up to five calls that put or take one of four keys, of up to seven with two.
func TestP21_5InOrder(t *testing.T) {
	for _, most := range []int{-1, 0, 1, 2, 3, 4, 5} {
		for calls := range 6 {
			allLines(t, most, []int{2, 1, 4, 3}, calls)
		}
		for calls := range 8 {
			allLines(t, most, []string{"b", "a"}, calls)
		}
	}
}

// TestP21_5Once holds, by long lines of calls, that a key is there once, in the order of when it was put first since it was taken last.
func TestP21_5Once(t *testing.T) {
	for seed := range 300 {
		chance(t, seed, seed%14, upTo(-4, 12))
	}
}

// TestP21_5Many holds the order of many keys, of which many are taken.
func TestP21_5Many(t *testing.T) {
	const n = 4096
	l := Texts(n)
	for i := range n {
		puts(t, l, true, i*7919%n, fmt.Sprint(i))
	}
	for i := range n {
		if i%3 != 1 {
			takes(t, l, i*7919%n, fmt.Sprint(i), true)
		}
	}
	var want []int
	for i := range n {
		if i%3 == 1 {
			want = append(want, i*7919%n)
			has(t, l, i*7919%n, fmt.Sprint(i), true)
		}
	}
	if !slices.Equal(l.First(n), want) || l.Full() {
		t.Fatalf("%d keys, %d told", l.Len(), len(l.First(n)))
	}
	for i := range n - len(want) {
		puts(t, l, true, n+i, "")
	}
	puts(t, l, false, 2*n, "")
	if got := l.First(n); !l.Full() || !slices.Equal(got[:len(want)], want) || !slices.Equal(got[len(want):], upTo(n, n-len(want))) {
		t.Fatalf("%d keys behind the others", l.Len())
	}
}

// TestP21_6Apart holds that what is done with one key leaves the others, their values and their order.
func TestP21_6Apart(t *testing.T) {
	for most := 4; most <= 6; most++ {
		for k := range 6 {
			for what, do := range map[string]func(l *List[int, string]){
				"Put":           func(l *List[int, string]) { l.Put(k, "x") },
				"Get":           func(l *List[int, string]) { l.Get(k) },
				"Take":          func(l *List[int, string]) { l.Take(k) },
				"Take, Put":     func(l *List[int, string]) { l.Take(k); l.Put(k, "x") },
				"Put, Take":     func(l *List[int, string]) { l.Put(k, "x"); l.Take(k) },
				"Put, Put, Get": func(l *List[int, string]) { l.Put(k, "x"); l.Put(k, "y"); l.Get(k) },
			} {
				l := filled(t, most, 3, 1, 4, 2)
				do(l)
				others := func(x int) bool { return x == k }
				if got, want := slices.DeleteFunc(l.First(9), others), slices.DeleteFunc([]int{3, 1, 4, 2}, others); !slices.Equal(got, want) {
					t.Fatalf("%s of %d: %v, not %v", what, k, got, want)
				}
				for x := range 6 {
					if x != k && x >= 1 && x <= 4 {
						has(t, l, x, fmt.Sprint(x), true)
					} else if x != k {
						has(t, l, x, "", false)
					}
				}
			}
		}
	}
}

// TestP21_6Near holds that keys that are nearly the same are others.
func TestP21_6Near(t *testing.T) {
	l := New[any, int](100)
	keys := []any{nil, 0, int8(0), uint(0), 0.0, 0i, "", "\x00", "0", '0', false, pair{}, [2]int{}, [1]int{}, struct{}{}, struct{ a, b int }{}, error(nil) == nil, text(""), (*int)(nil), (*string)(nil), (chan int)(nil)}
	for i, k := range keys {
		if _, is := l.Get(k); is || !l.Put(k, i) {
			t.Fatalf("%T %v: it is there, or isn't put", k, k)
		}
	}
	keysAre(t, l, false, keys...)
	for i, k := range keys {
		if v, is := l.Take(k); !is || v != i {
			t.Fatalf("%T %v: %d, %v", k, k, v, is)
		}
		keysAre(t, l, false, keys[i+1:]...)
	}
}
