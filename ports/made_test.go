package ports_test

import (
	"bytes"
	"fmt"
	"math"
	"math/rand"
	"testing"

	"fairway/api"
	"fairway/ip"
	"fairway/ports"
)

// one is a flow each of whose parts has bytes of its own, and oneTcp and oneUdp packets of it, with a payload of three bytes.
var (
	one    = api.Flow{Proto: 6, Src: 0xc0a80001, Dst: 0x0a0b0c0d, Sport: 0x1234, Dport: 443}
	oneTcp = []byte{
		0x45, 0, 0, 43, 0, 0, 0, 0, 64, 6, 0xa4, 0x0c, 0xc0, 0xa8, 0, 1, 0x0a, 0x0b, 0x0c, 0x0d,
		0x12, 0x34, 0x01, 0xbb, 0, 0, 0, 0, 0, 0, 0, 0, 80, 0x12, 0xff, 0xff, 0xd2, 0xa5, 0, 0, 'x', 'y', 'z',
	}
	oneUdp = []byte{
		0x45, 0, 0, 31, 0, 0, 0, 0, 64, 17, 0xa4, 0x0d, 0xc0, 0xa8, 0, 1, 0x0a, 0x0b, 0x0c, 0x0d,
		0x12, 0x34, 0x01, 0xbb, 0, 11, 0x22, 0xae, 'x', 'y', 'z',
	}
)

// plainSum is a check sum by another way: of bytes that are not all 0 what is left by 65535 is never 0, but 65535.
func plainSum(b ...byte) int {
	total := 0
	for at, x := range b {
		total += int(x) << (8 * (1 - at%2))
	}
	if total == 0 {
		return 65535
	}
	return 65535 - ((total-1)%65535 + 1)
}

// summed: a packet of that flow and payload, with the sum of it, and of the twelve bytes that count beside it, at a place that was 0.
func summed(f api.Flow, at int, b []byte) []byte {
	src, dst := f.Src, f.Dst
	beside := []byte{
		byte(src >> 24), byte(src >> 16), byte(src >> 8), byte(src),
		byte(dst >> 24), byte(dst >> 16), byte(dst >> 8), byte(dst),
		0, byte(f.Proto), byte(len(b) >> 8), byte(len(b)),
	}
	n := plainSum(append(beside, b...)...)
	if n == 0 && f.Proto == 17 {
		n = 65535
	}
	b[at], b[at+1] = byte(n>>8), byte(n)
	return ip.Build(ip.Header{Ttl: 64, Proto: f.Proto, Src: src, Dst: dst}, b)
}

// plainTcp is P5.2's packet of TCP, of a flow that is Good.
func plainTcp(f api.Flow, flags int, payload []byte) []byte {
	f.Proto = 6
	head := []byte{
		byte(f.Sport >> 8), byte(f.Sport), byte(f.Dport >> 8), byte(f.Dport),
		0, 0, 0, 0, 0, 0, 0, 0, 80, byte(flags), 255, 255, 0, 0, 0, 0,
	}
	return summed(f, 16, append(head, payload...))
}

// plainUdp is P5.2's packet of UDP, of a flow that is Good.
func plainUdp(f api.Flow, payload []byte) []byte {
	f.Proto = 17
	n := 8 + len(payload)
	head := []byte{byte(f.Sport >> 8), byte(f.Sport), byte(f.Dport >> 8), byte(f.Dport), byte(n >> 8), byte(n), 0, 0}
	return summed(f, 6, append(head, payload...))
}

// made: both packets of a flow are as they should be, and lead back to it.
func made(t *testing.T, what string, f api.Flow, flags int, payload []byte) {
	t.Helper()
	was := bytes.Clone(payload)
	tcp, udp := ports.Tcp(f, flags, payload), ports.Udp(f, payload)
	list(t, what+": Tcp", tcp, plainTcp(f, flags, payload)...)
	list(t, what+": Udp", udp, plainUdp(f, payload)...)
	f.Proto = 6
	belongs(t, what+": Of of Tcp", tcp, ports.Segment{Flow: f, Flags: flags & 255, Size: 20 + len(payload)})
	f.Proto = 17
	belongs(t, what+": Of of Udp", udp, ports.Segment{Flow: f, Size: 8 + len(payload)})
	list(t, what+": what was handed in", payload, was...)
}

// none: of this no packet is made.
func none(t *testing.T, what string, f api.Flow, payload []byte) {
	t.Helper()
	list(t, what+": Tcp", ports.Tcp(f, ports.Syn, payload))
	list(t, what+": Udp", ports.Udp(f, payload))
}

// P5.2: packets byte by byte.
func TestMade(t *testing.T) {
	list(t, "Tcp", ports.Tcp(one, ports.Syn|ports.Ack, []byte("xyz")), oneTcp...)
	list(t, "Udp", ports.Udp(one, []byte("xyz")), oneUdp...)
	is(t, "length of the example", len(ports.Udp(one, nil)), 28)
	is(t, "length of Tcp, no payload", len(ports.Tcp(one, 0, nil)), 40)
	made(t, "nothing", api.Flow{}, 0, nil)
	made(t, "the greatest parts", api.Flow{Src: math.MaxUint32, Dst: math.MaxUint32, Sport: 65535, Dport: 65535}, 255, []byte{255})
}

// P5.2: of flags the lowest byte counts.
func TestMadeFlags(t *testing.T) {
	for flags := range 256 {
		made(t, "flags", one, flags, nil)
	}
	for _, flags := range []int{256, 257, 511, 1<<16 + 18, -1, -2, -256, math.MaxInt, math.MinInt, math.MinInt + 16} {
		made(t, fmt.Sprint("flags ", flags), one, flags, []byte{7})
	}
}

// P5.2, P5.4: Proto is taken as the function says, whatever it was.
func TestMadeProto(t *testing.T) {
	for _, proto := range append(noProtos, 6, 17) {
		f := one
		f.Proto = proto
		list(t, fmt.Sprint("Tcp of protocol ", proto), ports.Tcp(f, 0x12, []byte("xyz")), oneTcp...)
		list(t, fmt.Sprint("Udp of protocol ", proto), ports.Udp(f, []byte("xyz")), oneUdp...)
	}
}

// noPorts are numbers that are none of a port.
var noPorts = []int{-1, -2, -65535, 65536, 65537, 2 * 65536, 1<<32 + 1, math.MaxInt, math.MinInt, math.MinInt + 1}

// P5.2: of a flow that is not Good nothing is made.
func TestMadeNotGood(t *testing.T) {
	for _, port := range noPorts {
		f := one
		f.Sport = port
		none(t, fmt.Sprint("source port ", port), f, []byte{1})
		f = one
		f.Dport = port
		none(t, fmt.Sprint("destination port ", port), f, nil)
	}
}

// P5.2: up to MaxPacket bytes, whatever of them are heads.
func TestMadeLong(t *testing.T) {
	full := bytes.Repeat([]byte{0xa5}, 70000)
	is(t, "length of the longest Tcp", len(ports.Tcp(one, 1, full[:8960])), api.MaxPacket)
	is(t, "length of the longest Udp", len(ports.Udp(one, full[:8972])), api.MaxPacket)
	list(t, "the longest Tcp", ports.Tcp(one, 1, full[:8960]), plainTcp(one, 1, full[:8960])...)
	list(t, "the longest Udp", ports.Udp(one, full[:8972]), plainUdp(one, full[:8972])...)
	list(t, "Tcp of one more", ports.Tcp(one, 1, full[:8961]))
	list(t, "Udp of one more", ports.Udp(one, full[:8973]))
	for _, n := range []int{8973, 9000, 65535, 65536 - 8, 65536, 65536 + 8, 70000} {
		none(t, fmt.Sprint(n, " bytes"), one, full[:n])
	}
}

// P5.2: a payload of an odd length has a last word of its own 256 times.
func TestMadeLengths(t *testing.T) {
	for n := range 70 {
		made(t, fmt.Sprint(n, " bytes"), one, 0x18, bytes.Repeat([]byte{0xfe}, n))
	}
}

// sumOf: the sum that stands at a place of a packet's payload.
func sumOf(b []byte, at int) int { return int(b[20+at])<<8 + int(b[20+at+1]) }

// P5.2: a sum of 0 stands as 0 in TCP, and as 65535 in UDP; a sum beside it stands as it is.
func TestMadeSumOfZero(t *testing.T) {
	for _, f := range []api.Flow{{}, one, {Src: 1, Dst: 1 << 31, Sport: 7, Dport: 65535}} {
		for _, x := range []struct{ less, tcp, udp int }{{0, 0, 65535}, {1, 1, 1}, {2, 2, 2}} {
			word := sumOf(ports.Tcp(f, ports.Syn, []byte{0, 0}), 16) - x.less
			payload := []byte{byte(word >> 8), byte(word)}
			is(t, "sum of TCP", sumOf(ports.Tcp(f, ports.Syn, payload), 16), x.tcp)
			made(t, "TCP", f, ports.Syn, payload)

			word = sumOf(ports.Udp(f, []byte{0, 0}), 6) - x.less
			payload = []byte{byte(word >> 8), byte(word)}
			is(t, "sum of UDP", sumOf(ports.Udp(f, payload), 6), x.udp)
			made(t, "UDP", f, 0, payload)
		}
	}
}

// someFlow is a flow that is Good but for its Proto, many parts of it at their ends.
func someFlow(r *rand.Rand) api.Flow {
	upTo := func(most int) int { return []int{0, 1, most - 1, most, r.Intn(most + 1), r.Intn(most + 1)}[r.Intn(6)] }
	return api.Flow{
		Proto: upTo(255), Src: uint32(upTo(math.MaxUint32)), Dst: uint32(upTo(math.MaxUint32)),
		Sport: upTo(65535), Dport: upTo(65535),
	}
}

// P5.2, P5.4: many packets; Of of what was made is its flow.
func TestMadeAgainstPlain(t *testing.T) {
	r := rand.New(rand.NewSource(53))
	for range 10000 {
		made(t, "any flow", someFlow(r), int(r.Int63())-1<<62, someBytes(r, r.Intn(60)))
	}
}

// fill writes over bytes and over the room behind them.
func fill(b []byte) {
	b = b[:cap(b)]
	for i := range b {
		b[i] = 0x77
	}
}

// R3: what was made is new memory, its room too, and what was handed in is kept, with the room behind its end.
func TestMadeMemory(t *testing.T) {
	room := append([]byte("xyz"), bytes.Repeat([]byte{5}, 60)...)
	was := bytes.Clone(room)
	for _, n := range []int{0, 3} {
		fill(ports.Tcp(one, 0x12, room[:n]))
		fill(ports.Udp(one, room[:n]))
		list(t, "what was handed in", room, was...)
	}
	tcp, udp := ports.Tcp(one, 0x12, room[:3]), ports.Udp(one, room[:3])
	fill(room)
	list(t, "Tcp, once what was handed in was filled", tcp, oneTcp...)
	list(t, "Udp, once what was handed in was filled", udp, oneUdp...)
	fill(tcp)
	fill(udp)
	fill(ports.Bytes(one))
	list(t, "Tcp, once another one was filled", ports.Tcp(one, 0x12, []byte("xyz")), oneTcp...)
	list(t, "Udp, once another one was filled", ports.Udp(one, []byte("xyz")), oneUdp...)
}
