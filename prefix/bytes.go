package prefix

import (
	"slices"

	"fairway/api"
	"fairway/wire"
)

// Bytes: a byte of Len, and as many of Addr as have these bits.
func Bytes(p api.Prefix) []byte {
	p = Canon(p)
	return wire.Put32(wire.Put8(nil, p.Len), p.Addr)[:1+size(p.Len)]
}

// size: how many bytes have the first n bits.
func size(n int) int { return (n + 7) / 8 }

// Read: the prefix that a source goes on with. What it took ahead of a fault stays taken.
func Read(s *wire.Source) (api.Prefix, bool) {
	n := s.U8()
	if n > bits {
		return api.Prefix{}, false
	}
	addr := begun(s.Bytes(size(n)))
	if s.Err() != api.OK {
		return api.Prefix{}, false
	}
	return Canon(api.Prefix{Addr: addr, Len: n}), true
}

// begun: the address that begins with these bytes, and goes on with 0.
func begun(b []byte) uint32 {
	addr, _ := wire.Get32(slices.Concat(b, make([]byte, size(bits))), 0)
	return addr
}

// All: Bytes of each.
func All(l []api.Prefix) []byte {
	var b []byte
	for _, p := range l {
		b = append(b, Bytes(p)...)
	}
	return b
}

// Parse: the prefixes of which b is made.
func Parse(b []byte) ([]api.Prefix, bool) {
	var l []api.Prefix
	for s := wire.Read(b); s.Left() > 0; {
		p, ok := Read(s)
		if !ok {
			return nil, false
		}
		l = append(l, p)
	}
	return l, true
}
