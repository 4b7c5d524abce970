package ports

import (
	"slices"

	"fairway/api"
	"fairway/chk"
	"fairway/ip"
	"fairway/wire"
)

// How many bytes the least head of TCP has, and each head of UDP, and where parts stand in it. TCP tells its head in words of wordSize bytes, by the bits of a byte from wordsBit on.
const (
	tcpHead  = 20
	seqsAt   = 4 // both sequence numbers
	wordsAt  = 12
	flagsAt  = 13
	tcpSumAt = 16
	wordSize = 4
	wordsBit = 4

	udpHead  = 8
	lengthAt = 4
	udpSumAt = 6
)

// What a packet that is made has, beside its flow: how long it may go on, and how much its sender takes.
const (
	ttl    = 64
	window = 65535
)

// more is the flag of IP that says that other fragments come behind.
const more = 1

// noSum stands in UDP for a sum of 0: there 0 says that there is no sum.
const noSum = 65535

// leastHead: how many bytes a head of that protocol has at least; 0 of a protocol without ports.
func leastHead(proto int) int {
	switch proto {
	case ip.Tcp:
		return tcpHead
	case ip.Udp:
		return udpHead
	}
	return 0
}

// check: do these bytes begin with a head of that protocol?
func check(proto int, b []byte) api.Errno {
	least := leastHead(proto)
	if least == 0 {
		return api.ErrArg
	}
	if len(b) < least {
		return api.ErrShort
	}
	if n := told(proto, b); n < least || n > len(b) {
		return api.ErrBad
	}
	return api.OK
}

// told: how many bytes a head says that there are: of TCP in itself, of UDP with all behind it.
func told(proto int, b []byte) int {
	if proto == ip.Tcp {
		return int(b[wordsAt]>>wordsBit) * wordSize
	}
	n, _ := wire.Get16(b, lengthAt)
	return n
}

// flagsOf: those of a head of TCP; UDP has none.
func flagsOf(proto int, b []byte) int {
	if proto == ip.Tcp {
		return int(b[flagsAt])
	}
	return 0
}

// packet: one of that flow, whose payload has these parts, one behind the other; where its sum goes they have noughts.
func packet(f api.Flow, sumAt int, parts ...[]byte) []byte {
	if !Good(f) {
		return nil
	}
	b := slices.Concat(parts...)
	copy(b[sumAt:], wire.Put16(nil, sum(f, b)))
	return ip.Build(ip.Header{Ttl: ttl, Proto: f.Proto, Src: f.Src, Dst: f.Dst}, b)
}

// sum: the check sum of a packet's payload, and of what counts beside it as one word more.
func sum(f api.Flow, b []byte) int {
	beside := chk.Pseudo(f.Src, f.Dst, f.Proto, len(b))
	n := chk.Of(slices.Concat(wire.Put16(nil, beside), b))
	if n == 0 && f.Proto == ip.Udp {
		return noSum
	}
	return n
}
