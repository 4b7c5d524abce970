package ports

import (
	"iter"

	"fairway/api"
	"fairway/wire"
)

// mostPort: the greatest port.
const mostPort = 65535

// end is one of the two that a flow has.
type end struct {
	addr uint32
	port int
}

// ends tells both, the source ahead of the destination.
func ends(f api.Flow) iter.Seq[end] {
	return func(yield func(end) bool) {
		if yield(end{addr: f.Src, port: f.Sport}) {
			yield(end{addr: f.Dst, port: f.Dport})
		}
	}
}

// addrBytes: both addresses.
func addrBytes(f api.Flow) []byte {
	var b []byte
	for e := range ends(f) {
		b = wire.Put32(b, e.addr)
	}
	return b
}

// portBytes: both ports.
func portBytes(f api.Flow) []byte {
	var b []byte
	for e := range ends(f) {
		b = wire.Put16(b, e.port)
	}
	return b
}
