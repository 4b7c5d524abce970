// Package wire puts numbers into bytes, and takes them out, the greatest byte first.
package wire

import "slices"

// Put8: b, as new memory, with n's lowest byte behind.
func Put8(b []byte, n int) []byte { return put(b, byte(n)) }

// Put16: b, as new memory, with n's lowest two bytes behind.
func Put16(b []byte, n int) []byte { return put(b, byte(n>>8), byte(n)) }

// Put32: b, as new memory, with n's four bytes behind.
func Put32(b []byte, n uint32) []byte {
	return put(b, byte(n>>24), byte(n>>16), byte(n>>8), byte(n))
}

// put doesn't append to b itself: that would write into the room behind b's end.
func put(b []byte, tail ...byte) []byte { return slices.Concat(b, tail) }

// Get16: the number of two bytes at that place.
func Get16(b []byte, at int) (int, bool) {
	n, ok := get(b, at, 2)
	return int(n), ok
}

// Get32: the number of four bytes at that place.
func Get32(b []byte, at int) (uint32, bool) { return get(b, at, 4) }

// get holds at against len(b)-size, since at+size could wrap.
func get(b []byte, at, size int) (uint32, bool) {
	if at < 0 || at > len(b)-size {
		return 0, false
	}
	return number(b[at : at+size]), true
}

// number: that of at most four bytes.
func number(b []byte) uint32 {
	n := uint32(0)
	for _, x := range b {
		n = n<<8 | uint32(x)
	}
	return n
}
