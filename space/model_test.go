package space

import (
	"maps"
	"math"
	"math/rand"
	"slices"
	"strings"

	"seneschal/api"
)

// The chapter's numbers, written out.
const (
	mostKeys  = 64
	mostBytes = 4096
	longKey   = 24
	longValue = 64
)

// of tells a space of these limits, with keys and values in turn.
func of(keys, bytes int, texts ...string) Space {
	s := Space{Keys: keys, Bytes: bytes}
	for i := 0; i+1 < len(texts); i += 2 {
		s.Pairs = append(s.Pairs, Pair{texts[i], texts[i+1]})
	}
	return s
}

// wide tells a space of the greatest limits.
func wide(texts ...string) Space { return of(mostKeys, mostBytes, texts...) }

// copied tells the same space in other memory.
func copied(s Space) Space {
	s.Pairs = append([]Pair(nil), s.Pairs...)
	return s
}

// name tells the n-th of keys that rise, each of two bytes.
func name(n int) string { return string([]byte{byte(n / 200), byte(n % 200)}) }

// many tells a space of the greatest limits with so many keys of two bytes, each with that value.
func many(n int, value string) Space {
	s := wide()
	for i := range n {
		s.Pairs = append(s.Pairs, Pair{name(i), value})
	}
	return s
}

// full tells a space of the greatest limits with as many keys and as many bytes as there may be: 64 pairs of 64 bytes.
func full() Space { return many(mostKeys, strings.Repeat("v", 62)) }

// isKeyText and isValueText tell what may be a key, and a value, as the chapter's words have it.
func isKeyText(k string) bool   { return len([]byte(k)) > 0 && len([]byte(k)) < 25 }
func isValueText(v string) bool { return len([]byte(v)) < 65 }

// less tells which of two texts is ahead of the other, byte by byte.
func less(a, b string) bool {
	for i := range len(a) {
		if i >= len(b) || a[i] != b[i] {
			return i < len(b) && a[i] < b[i]
		}
	}
	return len(a) < len(b)
}

// amounts tells how many keys, and bytes, there are in pairs.
func amounts(pairs []Pair) (keys, bytes int) {
	for _, p := range pairs {
		keys++
		bytes += len([]byte(p.Key + p.Value))
	}
	return keys, bytes
}

// mayLimits tells whether a space may have these limits.
func mayLimits(keys, bytes int) bool {
	return !(keys < 0 || keys > mostKeys || bytes < 0 || bytes > mostBytes)
}

// isSpace tells whether that is a space, as the chapter's words have it.
func isSpace(s Space) bool {
	for i, p := range s.Pairs {
		if !isKeyText(p.Key) || !isValueText(p.Value) || i > 0 && !less(s.Pairs[i-1].Key, p.Key) {
			return false
		}
	}
	keys, bytes := amounts(s.Pairs)
	return mayLimits(s.Keys, s.Bytes) && keys <= s.Keys && bytes <= s.Bytes
}

// table tells a space's pairs as a map.
func table(s Space) map[string]string {
	m := map[string]string{}
	for _, p := range s.Pairs {
		m[p.Key] = p.Value
	}
	return m
}

// laid tells the space of these limits that has what the map has; ErrQuota, if that is too much.
func laid(keys, bytes int, m map[string]string) (Space, api.Errno) {
	s := of(keys, bytes)
	for _, k := range slices.SortedFunc(maps.Keys(m), func(a, b string) int {
		if less(a, b) {
			return -1
		}
		return 1
	}) {
		s.Pairs = append(s.Pairs, Pair{k, m[k]})
	}
	if k, b := amounts(s.Pairs); k > keys || b > bytes {
		return Space{}, 120
	}
	return s, 0
}

// The calls of the chapter over maps.
func modelGet(s Space, k string) (string, api.Errno) {
	v, there := table(s)[k]
	switch {
	case !isSpace(s) || !isKeyText(k):
		return "", 2
	case !there:
		return "", 110
	}
	return v, 0
}

func modelPut(s Space, k, v string) (Space, api.Errno) {
	if !isSpace(s) || !isKeyText(k) || !isValueText(v) {
		return Space{}, 2
	}
	m := table(s)
	m[k] = v
	return laid(s.Keys, s.Bytes, m)
}

func modelSwap(s Space, k, old, v string) (Space, api.Errno) {
	was, there := table(s)[k]
	switch {
	case !isSpace(s) || !isKeyText(k) || !isValueText(v):
		return Space{}, 2
	case !there:
		return Space{}, 110
	case was != old:
		return Space{}, 111
	}
	return modelPut(s, k, v)
}

func modelDel(s Space, k string) (Space, api.Errno) {
	m := table(s)
	_, there := m[k]
	switch {
	case !isSpace(s) || !isKeyText(k):
		return Space{}, 2
	case !there:
		return Space{}, 110
	}
	delete(m, k)
	return laid(s.Keys, s.Bytes, m)
}

func modelResize(s Space, keys, bytes int) (Space, api.Errno) {
	if !isSpace(s) || !mayLimits(keys, bytes) {
		return Space{}, 2
	}
	return laid(keys, bytes, table(s))
}

func modelList(s Space, from string, n int) []string {
	var l []string
	for _, p := range s.Pairs {
		if isSpace(s) && len(l) < n && !less(p.Key, from) {
			l = append(l, p.Key)
		}
	}
	return l
}

// equal tells whether spaces are the same, each pair held against the other one.
func equal(a, b Space) bool {
	if a.Keys != b.Keys || a.Bytes != b.Bytes || len(a.Pairs) != len(b.Pairs) {
		return false
	}
	for i := range a.Pairs {
		if a.Pairs[i].Key != b.Pairs[i].Key || a.Pairs[i].Value != b.Pairs[i].Value {
			return false
		}
	}
	return true
}

// ends tells numbers at the edges of limits, and at the ends of what an int holds.
func ends() []int {
	return []int{math.MinInt, math.MinInt + 1, math.MinInt32, -mostBytes, -mostKeys, -1, 0, 1, 2, mostKeys - 1, mostKeys, mostKeys + 1, 100, mostBytes - 1, mostBytes, mostBytes + 1, math.MaxInt32, 1<<32 + 1, math.MaxInt - 1, math.MaxInt}
}

// text tells a text by chance: of up to so many bytes of few kinds, those above 127 among them.
func text(c *rand.Rand, upTo int) string {
	b := make([]byte, c.Intn(upTo+1))
	for i := range b {
		b[i] = "\x00ab\x7f\x80\xc3\xff"[c.Intn(7)]
	}
	return string(b)
}

// someSpace tells a space by chance: of up to so many keys, its limits at times just so wide as what is in it.
func someSpace(c *rand.Rand, upTo int) Space {
	m := map[string]string{}
	for range c.Intn(upTo + 1) {
		m[text(c, 3)+"k"] = text(c, c.Intn(9))
	}
	s, _ := laid(mostKeys, mostBytes, m)
	keys, bytes := amounts(s.Pairs)
	if c.Intn(2) == 0 {
		s.Keys = min(keys+c.Intn(3), mostKeys)
	}
	if c.Intn(2) == 0 {
		s.Bytes = min(bytes+c.Intn(9), mostBytes)
	}
	return s
}

// perhaps tells a space by chance, or one in which something is otherwise.
func perhaps(c *rand.Rand) Space {
	s := someSpace(c, 9)
	at := c.Intn(len(s.Pairs) + 1)
	switch p := (Pair{text(c, 3), text(c, 3)}); c.Intn(14) {
	case 0:
		s.Keys = ends()[c.Intn(len(ends()))]
	case 1:
		s.Bytes = ends()[c.Intn(len(ends()))]
	case 2:
		s.Pairs = slices.Insert(s.Pairs, at, p)
	case 3:
		if at < len(s.Pairs) {
			s.Pairs[at] = p
		}
	case 4:
		if at < len(s.Pairs) {
			s.Pairs[at].Value = strings.Repeat("v", longValue-1+c.Intn(3))
		}
	case 5:
		s.Keys, s.Bytes = len(s.Pairs)-c.Intn(2), s.Bytes-c.Intn(2)
	}
	return s
}
