package ports_test

import (
	"bytes"
	"fmt"
	"math"
	"math/rand"
	"testing"

	"fairway/api"
	"fairway/ip"
	"fairway/ports"
)

// is holds an answer against what it should be.
func is[T comparable](t *testing.T, what string, got, want T) {
	t.Helper()
	if got != want {
		t.Errorf("%s: %v, want %v", what, got, want)
	}
}

// list holds bytes against what they should be; nil and empty lists are the same.
func list(t *testing.T, what string, got []byte, want ...byte) {
	t.Helper()
	if !bytes.Equal(got, want) {
		t.Errorf("%s: %v, want %v", what, got, want)
	}
}

// answer is all that Parse tells.
type answer struct {
	sport, dport, flags int
	err                 api.Errno
}

// parsed: what Parse tells of bytes, which it keeps.
func parsed(t *testing.T, proto int, b []byte) answer {
	t.Helper()
	was := bytes.Clone(b)
	var a answer
	a.sport, a.dport, a.flags, a.err = ports.Parse(proto, b)
	list(t, "what was handed in", b, was...)
	return a
}

// tcpBytes: n bytes, the first of them a head of TCP that says that it has so many words.
func tcpBytes(words, n int) []byte {
	b := []byte{0x12, 0x34, 0xff, 0xfe, 1, 2, 3, 4, 5, 6, 7, 8, byte(words*16 + 9), 0xa5, 9, 10, 11, 12, 13, 14}
	return append(b, bytes.Repeat([]byte{0x99}, 100)...)[:n]
}

// udpBytes: n bytes, the first of them a head of UDP of that length.
func udpBytes(length, n int) []byte {
	b := make([]byte, max(n, 8))
	copy(b, []byte{0x12, 0x34, 0xff, 0xfe, byte(length >> 8), byte(length), 0xa5, 0xa6})
	return b[:n]
}

// The parts of tcpBytes and udpBytes.
var (
	tcpParts = answer{sport: 0x1234, dport: 0xfffe, flags: 0xa5}
	udpParts = answer{sport: 0x1234, dport: 0xfffe}
)

// noProtos are protocols without ports, and numbers that are none.
var noProtos = []int{0, 1, 2, 4, 5, 7, 8, 16, 18, 41, 58, 132, 254, 255, 256, 256 + 6, 256 + 17, 1<<16 + 6, 1<<32 + 17, -1, -6, -17, 6 - 256, math.MaxInt, math.MinInt, math.MinInt + 6}

// P5.1, P5.2: the flags' numbers.
func TestFlags(t *testing.T) {
	is(t, "Fin", ports.Fin, 1)
	is(t, "Syn", ports.Syn, 2)
	is(t, "Rst", ports.Rst, 4)
	is(t, "Ack", ports.Ack, 16)
}

// P5.1: both ports, and TCP's flags, all eight bits of them.
func TestParse(t *testing.T) {
	is(t, "TCP", parsed(t, 6, tcpBytes(5, 20)), tcpParts)
	is(t, "UDP", parsed(t, 17, udpBytes(8, 8)), udpParts)
	for flags := range 256 {
		b := tcpBytes(5, 20)
		b[13] = byte(flags)
		is(t, "TCP's flags", parsed(t, 6, b), answer{sport: 0x1234, dport: 0xfffe, flags: flags})
		b = udpBytes(14, 14)
		b[13] = byte(flags)
		is(t, "no flags of UDP", parsed(t, 17, b), udpParts)
	}
	for _, port := range []int{0, 1, 255, 256, 32768, 65535} {
		b := tcpBytes(5, 20)
		b[0], b[1] = byte(port>>8), byte(port)
		is(t, "source port", parsed(t, 6, b), answer{sport: port, dport: 0xfffe, flags: 0xa5})
		b = udpBytes(8, 8)
		b[2], b[3] = byte(port>>8), byte(port)
		is(t, "destination port", parsed(t, 17, b), answer{sport: 0x1234, dport: port})
	}
}

// P5.1: another protocol, ahead of all else.
func TestParseProto(t *testing.T) {
	for _, proto := range noProtos {
		for _, b := range [][]byte{nil, {}, {1}, tcpBytes(5, 7), tcpBytes(5, 19), tcpBytes(4, 20), tcpBytes(5, 20), udpBytes(8, 8), udpBytes(7, 8)} {
			is(t, fmt.Sprint("protocol ", proto, ", ", len(b), " bytes"), parsed(t, proto, b), answer{err: api.ErrArg})
		}
	}
}

// P5.1: too few bytes for the least head, ahead of what they say; what lies in the room behind the end is not there.
func TestParseShort(t *testing.T) {
	is(t, "TCP of nil", parsed(t, 6, nil), answer{err: api.ErrShort})
	is(t, "UDP of nil", parsed(t, 17, nil), answer{err: api.ErrShort})
	for n := range 20 {
		for _, words := range []int{0, 4, 5, 15} {
			is(t, fmt.Sprint("TCP of ", n, " bytes"), parsed(t, 6, tcpBytes(words, n)), answer{err: api.ErrShort})
		}
	}
	for n := range 8 {
		for _, length := range []int{0, n, 7, 8, 65535} {
			is(t, fmt.Sprint("UDP of ", n, " bytes"), parsed(t, 17, udpBytes(length, n)), answer{err: api.ErrShort})
		}
	}
}

// P5.1: every number of words, with every number of bytes.
func TestParseWords(t *testing.T) {
	for words := range 16 {
		for n := 20; n <= 64; n++ {
			want := tcpParts
			if words < 5 || 4*words > n {
				want = answer{err: api.ErrBad}
			}
			is(t, fmt.Sprint("TCP of ", words, " words, ", n, " bytes"), parsed(t, 6, tcpBytes(words, n)), want)
		}
	}
}

// P5.1: the length of UDP, against its head and against the bytes that are there.
func TestParseLength(t *testing.T) {
	for _, x := range []struct {
		length, n int
		want      api.Errno
	}{
		{0, 8, api.ErrBad},
		{1, 8, api.ErrBad},
		{7, 8, api.ErrBad},
		{7, 99, api.ErrBad},
		{8, 8, api.OK},
		{8, 9, api.OK}, // what stands behind its length is not looked at
		{8, 9000, api.OK},
		{9, 8, api.ErrBad},
		{9, 9, api.OK},
		{255, 255, api.OK},
		{255, 254, api.ErrBad},
		{256, 256, api.OK},
		{256, 255, api.ErrBad},
		{256 + 8, 8, api.ErrBad},
		{256 + 8, 263, api.ErrBad},
		{256 + 8, 264, api.OK},
		{8980, 8980, api.OK},
		{65535, 8, api.ErrBad},
		{65535, 65534, api.ErrBad},
		{65535, 65535, api.OK},
		{65535, 70000, api.OK},
	} {
		want := udpParts
		if x.want != api.OK {
			want = answer{err: x.want}
		}
		is(t, fmt.Sprint("UDP of length ", x.length, ", ", x.n, " bytes"), parsed(t, 17, udpBytes(x.length, x.n)), want)
	}
}

// plainParse is P5.1's words, one by one.
func plainParse(proto int, b []byte) answer {
	switch {
	case proto != 6 && proto != 17:
		return answer{err: api.ErrArg}
	case proto == 6 && len(b) < 20 || len(b) < 8:
		return answer{err: api.ErrShort}
	case proto == 6 && (b[12]/16 < 5 || 4*int(b[12]/16) > len(b)):
		return answer{err: api.ErrBad}
	}
	a := answer{sport: 256*int(b[0]) + int(b[1]), dport: 256*int(b[2]) + int(b[3])}
	if proto == 6 {
		a.flags = int(b[13])
	} else if n := 256*int(b[4]) + int(b[5]); n < 8 || n > len(b) {
		return answer{err: api.ErrBad}
	}
	return a
}

func someBytes(r *rand.Rand, n int) []byte {
	b := make([]byte, n)
	for i := range b {
		b[i] = []byte{0, 255, byte(r.Intn(256)), byte(r.Intn(256))}[r.Intn(4)]
	}
	return b
}

// someSegment is bytes that are a payload of TCP or UDP often enough.
func someSegment(r *rand.Rand) []byte {
	b := someBytes(r, r.Intn(70))
	if len(b) > 12 && r.Intn(2) == 0 {
		b[12] = byte(r.Intn(16)<<4 | r.Intn(16))
	}
	if len(b) > 5 && r.Intn(3) > 0 {
		b[4], b[5] = 0, byte(len(b)-2+r.Intn(4))
	}
	return b
}

// P5.1, P1: many bytes, right and wrong.
func TestParseAgainstPlain(t *testing.T) {
	r := rand.New(rand.NewSource(51))
	seen := map[api.Errno]int{}
	for range 30000 {
		proto := []int{6, 17, 6, 17, r.Intn(256)}[r.Intn(5)]
		b := someSegment(r)
		want := plainParse(proto, b)
		seen[want.err]++
		is(t, fmt.Sprint("protocol ", proto, " of ", b), parsed(t, proto, b), want)
	}
	for _, err := range []api.Errno{api.OK, api.ErrArg, api.ErrShort, api.ErrBad} {
		if seen[err] < 1000 {
			t.Errorf("%v: %d of 30000: this tests little", err, seen[err])
		}
	}
}

// belongs: Of b tells this, and keeps b.
func belongs(t *testing.T, what string, b []byte, want ports.Segment) {
	t.Helper()
	was := bytes.Clone(b)
	got, err := ports.Of(b)
	is(t, what, err, api.OK)
	is(t, what, got, want)
	list(t, what+": what was handed in", b, was...)
}

// fails: Of b tells this error, and nothing beside it.
func fails(t *testing.T, what string, b []byte, want api.Errno) {
	t.Helper()
	was := bytes.Clone(b)
	got, err := ports.Of(b)
	is(t, what, err, want)
	is(t, what, got, ports.Segment{})
	list(t, what+": what was handed in", b, was...)
}

// carrier is a header of that protocol, other parts of which are there to be left alone.
func carrier(proto int) ip.Header {
	return ip.Header{Tos: 0xb8, Id: 0x1234, Flags: 2, Ttl: 3, Proto: proto, Src: 0xc0a80001, Dst: 0xfffefdfc, Options: []byte{1, 2, 3, 4}}
}

// carried is the segment of tcpBytes or udpBytes behind that header.
func carried(proto, flags, size int) ports.Segment {
	f := api.Flow{Proto: proto, Src: 0xc0a80001, Dst: 0xfffefdfc, Sport: 0x1234, Dport: 0xfffe}
	return ports.Segment{Flow: f, Flags: flags, Size: size}
}

// P5.2: the flow, the flags, and how many bytes stand behind the head of IP, without what stands behind the packet.
func TestOf(t *testing.T) {
	tcp := ip.Build(carrier(6), tcpBytes(6, 29))
	udp := ip.Build(carrier(17), udpBytes(11, 11))
	belongs(t, "TCP", tcp, carried(6, 0xa5, 29))
	belongs(t, "UDP", udp, carried(17, 0, 11))
	belongs(t, "UDP with bytes behind its length", ip.Build(carrier(17), udpBytes(8, 50)), carried(17, 0, 50))
	belongs(t, "TCP without a payload", ip.Build(carrier(6), tcpBytes(5, 20)), carried(6, 0xa5, 20))
	belongs(t, "UDP without a payload", ip.Build(carrier(17), udpBytes(8, 8)), carried(17, 0, 8))
	for _, n := range []int{1, 2, 20, 9000} {
		behind := bytes.Repeat([]byte{0x77}, n)
		belongs(t, "TCP with bytes behind the packet", append(bytes.Clone(tcp), behind...), carried(6, 0xa5, 29))
		belongs(t, "UDP with bytes behind the packet", append(bytes.Clone(udp), behind...), carried(17, 0, 11))
	}
	longest := ip.Build(ip.Header{Proto: 17}, udpBytes(8980, 8980))
	belongs(t, "the longest", longest, ports.Segment{Flow: api.Flow{Proto: 17, Sport: 0x1234, Dport: 0xfffe}, Size: 8980})
}

// P5.2: of sums only that of the head of IP is looked at.
func TestOfOtherSums(t *testing.T) {
	f := api.Flow{Proto: 6, Src: 1, Dst: 2, Sport: 3, Dport: 4}
	tcp := ports.Tcp(f, ports.Rst, nil)
	tcp[20+16] ^= 1
	belongs(t, "TCP of another sum", tcp, ports.Segment{Flow: f, Flags: 4, Size: 20})
	udp := ports.Udp(f, nil)
	udp[20+6] ^= 1
	f.Proto = 17
	belongs(t, "UDP of another sum", udp, ports.Segment{Flow: f, Size: 8})
}

// P5.2: the errors of ip's Parse, ahead of all else.
func TestOfNoPacket(t *testing.T) {
	for _, h := range []ip.Header{carrier(6), carrier(1), {Proto: 6, Frag: 1}, {Proto: 1, Flags: 1}} {
		b := ip.Build(h, tcpBytes(4, 20))
		head := len(b) - 20
		fails(t, "nil", nil, api.ErrShort)
		for n := range len(b) {
			fails(t, "the begin of a packet", b[:n], api.ErrShort)
		}
		b[8] ^= 1
		fails(t, "a wrong sum", b, api.ErrSum)
		b[3] = byte(head - 1)
		fails(t, "fewer bytes than its head", b, api.ErrBad)
		b[0] = 0x65
		fails(t, "another version", b, api.ErrBad)
	}
}

// P5.2: fragments, whatever they carry; of the flags only the lowest one says that there are more.
func TestOfFragment(t *testing.T) {
	for _, frag := range []int{0, 1, 2, 255, 256, 4096, 8191} {
		for flags := range 8 {
			for _, proto := range []int{6, 17, 1, 4} {
				h := carrier(proto)
				h.Flags, h.Frag = flags, frag
				b, short := ip.Build(h, tcpBytes(5, 20)), ip.Build(h, nil)
				what := fmt.Sprint("protocol ", proto, ", flags ", flags, ", part ", frag)
				switch {
				case frag > 0 || flags%2 == 1:
					fails(t, what, b, api.ErrState)
					fails(t, what+", nothing in it", short, api.ErrState)
				case proto == 6:
					belongs(t, what, b, carried(6, 0xa5, 20))
				case proto == 17:
					belongs(t, what, ip.Build(h, udpBytes(8, 8)), carried(17, 0, 8))
				default:
					fails(t, what, b, api.ErrNone)
				}
			}
		}
	}
}

// P5.2: a protocol without ports is ErrNone, not ErrArg; other errors are Parse's.
func TestOfPayload(t *testing.T) {
	for proto := range 256 {
		if proto == 6 || proto == 17 {
			continue
		}
		what := fmt.Sprint("protocol ", proto)
		fails(t, what, ip.Build(carrier(proto), tcpBytes(5, 20)), api.ErrNone)
		fails(t, what+", nothing in it", ip.Build(carrier(proto), nil), api.ErrNone)
	}
	for n := range 20 {
		fails(t, "TCP, too short", ip.Build(carrier(6), tcpBytes(5, n)), api.ErrShort)
	}
	for n := range 8 {
		fails(t, "UDP, too short", ip.Build(carrier(17), udpBytes(8, n)), api.ErrShort)
	}
	fails(t, "TCP of 4 words", ip.Build(carrier(6), tcpBytes(4, 20)), api.ErrBad)
	fails(t, "TCP of 6 words, 5 of them there", ip.Build(carrier(6), tcpBytes(6, 20)), api.ErrBad)
	fails(t, "UDP of length 7", ip.Build(carrier(17), udpBytes(7, 20)), api.ErrBad)
	fails(t, "UDP of length 9, 8 bytes there", ip.Build(carrier(17), udpBytes(9, 8)), api.ErrBad)
	// What stands behind the packet is none of its payload.
	fails(t, "UDP of length 9, the last byte behind the packet", append(ip.Build(carrier(17), udpBytes(9, 8)), 1), api.ErrBad)
	fails(t, "TCP of 19 bytes, another one behind the packet", append(ip.Build(carrier(6), tcpBytes(5, 19)), 1), api.ErrShort)
}

// P5.2, P1: many packets, right and wrong, and bytes of any kind.
func TestOfAgainstPlain(t *testing.T) {
	r := rand.New(rand.NewSource(52))
	seen := map[api.Errno]int{}
	for range 30000 {
		h := carrier([]int{6, 17, 6, 17, r.Intn(256)}[r.Intn(5)])
		h.Flags, h.Frag = []int{0, 2, 4, 6, r.Intn(8)}[r.Intn(5)], []int{0, 0, 0, r.Intn(8192)}[r.Intn(4)]
		payload := someSegment(r)
		b := append(ip.Build(h, payload), someBytes(r, r.Intn(3))...)
		if r.Intn(8) == 0 {
			b[r.Intn(24)] ^= 1 << r.Intn(8)
		}
		a := plainParse(h.Proto, payload)
		want := a.err
		if _, _, err := ip.Parse(b); err != api.OK {
			want = err
		} else if h.Frag > 0 || h.Flags%2 == 1 {
			want = api.ErrState
		} else if a.err == api.ErrArg {
			want = api.ErrNone
		}
		seen[want]++
		if want != api.OK {
			fails(t, fmt.Sprint("Of ", b), b, want)
			continue
		}
		f := api.Flow{Proto: h.Proto, Src: h.Src, Dst: h.Dst, Sport: a.sport, Dport: a.dport}
		belongs(t, fmt.Sprint("Of ", b), b, ports.Segment{Flow: f, Flags: a.flags, Size: len(payload)})
	}
	for _, err := range []api.Errno{api.OK, api.ErrShort, api.ErrBad, api.ErrSum, api.ErrState, api.ErrNone} {
		if seen[err] < 100 {
			t.Errorf("%v: %d of 30000: this tests little", err, seen[err])
		}
	}
}
