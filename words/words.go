// Package words is layer 1: see shared/doc/01-words.md.
package words

// Rotr: P1.1.
func Rotr(x uint32, n int) uint32 {
	k := n & 31 // not n % 32, which is below 0 where n is: a turn the other way is one of the rest of the 32 this way
	return Shr(x, k) | x<<(32-k)
}

// Shr: P1.1.
func Shr(x uint32, n int) uint32 {
	if n < 0 {
		return x
	}
	return x >> n
}

// Load32: P1.2.
func Load32(b []byte, at int) (uint32, bool) {
	x, ok := load(b, at, 4)
	return uint32(x), ok
}

// Load64: P1.2.
func Load64(b []byte, at int) (uint64, bool) { return load(b, at, 8) }

// load tells the number of so many bytes that stand at that place.
func load(b []byte, at, size int) (uint64, bool) {
	if at < 0 || at > len(b)-size { // not at+size > len(b): that sum may wrap round
		return 0, false
	}
	var x uint64
	for i := range size {
		x = x<<8 | uint64(b[at+i])
	}
	return x, true
}

// Put32: P1.2.
func Put32(x uint32) []byte { return put(uint64(x), 4) }

// Put64: P1.2.
func Put64(x uint64) []byte { return put(x, 8) }

// put tells a number's last bytes, so many of them.
func put(x uint64, size int) []byte {
	b := make([]byte, size)
	for i := range size {
		b[size-1-i] = byte(x >> (8 * i))
	}
	return b
}

// Cat: P1.3.
func Cat(l ...[]byte) []byte {
	size := 0
	for _, b := range l {
		size += len(b)
	}
	all := make([]byte, 0, size) // also of one list alone: the answer shares nothing with what is handed in
	for _, b := range l {
		all = append(all, b...)
	}
	return all
}

// Xor: P1.3.
func Xor(a, b []byte) []byte {
	x := make([]byte, min(len(a), len(b)))
	for i := range len(x) {
		x[i] = a[i] ^ b[i]
	}
	return x
}

// Same: P1.3.
func Same(a, b []byte) bool {
	if len(a) != len(b) {
		return false
	}
	for i := range len(a) {
		if a[i] != b[i] {
			return false
		}
	}
	return true
}
