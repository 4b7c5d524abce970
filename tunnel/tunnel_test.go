package tunnel_test

import (
	"bytes"
	"fmt"
	"math"
	"testing"

	"fairway/api"
	"fairway/ip"
	"fairway/tunnel"
)

// is holds an answer against what it should be.
func is[T comparable](t *testing.T, what string, got, want T) {
	t.Helper()
	if got != want {
		t.Errorf("%s: %v, want %v", what, got, want)
	}
}

// list holds bytes against what they should be; nil and empty lists are the same.
func list(t *testing.T, what string, got []byte, want ...byte) {
	t.Helper()
	if !bytes.Equal(got, want) {
		t.Errorf("%s: %v, want %v", what, got, want)
	}
}

// header holds a header against what it should be.
func header(t *testing.T, what string, got, want ip.Header) {
	t.Helper()
	if !ip.Same(got, want) {
		t.Errorf("%s: %+v, want %+v", what, got, want)
	}
}

// wraps: Wrap of b tells these bytes, and keeps b.
func wraps(t *testing.T, what string, b []byte, src, dst uint32, want ...byte) {
	t.Helper()
	was := bytes.Clone(b)
	got, err := tunnel.Wrap(b, src, dst)
	is(t, what+": Wrap", err, api.OK)
	list(t, what+": Wrap", got, want...)
	list(t, what+": what was handed in", b, was...)
}

// wrapFails: Wrap of b tells this error, and nothing beside it, wherever it goes.
func wrapFails(t *testing.T, what string, b []byte, want api.Errno) {
	t.Helper()
	was := bytes.Clone(b)
	for _, addr := range []uint32{0, 7, math.MaxUint32} {
		got, err := tunnel.Wrap(b, addr, ^addr)
		is(t, what+": Wrap", err, want)
		list(t, what+": Wrap", got)
	}
	list(t, what+": what was handed in", b, was...)
}

// unwraps: Unwrap of b tells this packet and header, and keeps b; Is and Depth say that it can be done.
func unwraps(t *testing.T, what string, b []byte, outer ip.Header, inner ...byte) {
	t.Helper()
	was := bytes.Clone(b)
	got, h, err := tunnel.Unwrap(b)
	is(t, what+": Unwrap", err, api.OK)
	list(t, what+": Unwrap", got, inner...)
	header(t, what+": outer header", h, outer)
	is(t, what+": Is", tunnel.Is(b), true)
	is(t, what+": Depth", tunnel.Depth(b), min(1+tunnel.Depth(inner), 8))
	list(t, what+": what was handed in", b, was...)
}

// unwrapFails: Unwrap of b tells this error, and nothing beside it; Is and Depth say that it can't be done.
func unwrapFails(t *testing.T, what string, b []byte, want api.Errno) {
	t.Helper()
	was := bytes.Clone(b)
	got, h, err := tunnel.Unwrap(b)
	is(t, what+": Unwrap", err, want)
	list(t, what+": Unwrap", got)
	header(t, what+": outer header", h, ip.Header{})
	is(t, what+": Is", tunnel.Is(b), false)
	is(t, what+": Depth", tunnel.Depth(b), 0)
	list(t, what+": what was handed in", b, was...)
}

// one is a header each of whose parts has bits of its own, and oneBytes a packet of it, with a payload of three bytes.
var (
	one = ip.Header{
		Tos: 0xb8, Id: 0x1234, Flags: 6, Frag: 0x0abc, Ttl: 1, Proto: ip.Udp,
		Src: 0xc0a80001, Dst: 0x0a0b0c0d, Options: []byte{1, 2, 3, 4},
	}
	oneBytes = ip.Build(one, []byte("xyz"))
)

// outer is a header that may have a packet within, whose other parts are there to be told.
func outer() ip.Header {
	return ip.Header{
		Tos: 0x55, Id: 0xfffe, Flags: 6, Ttl: 9, Proto: 4,
		Src: 0xfffefdfc, Dst: 0x01020304, Options: []byte{5, 6, 7, 8, 9, 10, 11, 12},
	}
}

// otherSum is a packet whose check sum stands as 65535, where Build would write 0. Both are right.
func otherSum() []byte {
	h := ip.Header{Ttl: 3, Proto: 6, Src: 0x01020304}
	b := ip.Build(h, []byte("xyz"))
	h.Id = int(b[10])<<8 | int(b[11])
	b = ip.Build(h, []byte("xyz"))
	b[10], b[11] = 255, 255
	return b
}

// wrong is bytes that are no packet, and what is wrong with them.
type wrong struct {
	what string
	b    []byte
	want api.Errno
}

// broken: a packet of that header and payload, changed as little as can be, so that it is none.
func broken(h ip.Header, payload []byte) []wrong {
	b := ip.Build(h, payload)
	with := func(at int, parts ...byte) []byte {
		b := bytes.Clone(b)
		copy(b[at:], parts)
		return b
	}
	return []wrong{
		{"nil", nil, api.ErrShort},
		{"empty", []byte{}, api.ErrShort},
		{"19 bytes", b[:19], api.ErrShort},
		{"one byte short", b[:len(b)-1], api.ErrShort},
		{"another version", with(0, b[0]+16), api.ErrBad},
		{"too few words of head", with(0, 0x44), api.ErrBad},
		{"says that it has 19 bytes", with(2, 0, 19), api.ErrBad},
		{"says that it has 65535 bytes", with(2, 255, 255), api.ErrShort},
		{"says that it has 9001 bytes, and has them", append(with(2, 35, 41), make([]byte, 9000)...), api.ErrBad},
		{"another Ttl", with(8, b[8]^0x80), api.ErrSum},
		{"another check sum", with(11, b[11]^1), api.ErrSum},
	}
}

// P6.1: each part at its place, and the chapter's example.
func TestWrap(t *testing.T) {
	wraps(t, "one", oneBytes, 0x0a000001, 0xfffefdfc, append([]byte{
		0x45, 0xb8, 0, 47, 0x12, 0x34, 0x40, 0, 64, 4, 0x1f, 0xe3,
		0x0a, 0, 0, 1, 0xff, 0xfe, 0xfd, 0xfc,
	}, oneBytes...)...)
	c, err := tunnel.Wrap(ip.Build(ip.Header{Proto: ip.Udp}, make([]byte, 8)), 1, 2)
	is(t, "the example", err, api.OK)
	is(t, "the example's length", len(c), 48)
}

// around is the header that a packet of header h is wrapped with, by the chapter's words.
func around(h ip.Header, src, dst uint32) ip.Header {
	return ip.Header{Tos: h.Tos, Id: h.Id, Flags: h.Flags / 2 % 2 * 2, Ttl: 64, Proto: 4, Src: src, Dst: dst}
}

// P6.1: Tos and Id are the packet's; Ttl and Proto are not; options stay within.
func TestWrapParts(t *testing.T) {
	for n := range 256 {
		for _, h := range []ip.Header{{Tos: n}, {Ttl: n}, {Proto: n}, {Id: n}, {Id: 256 * n}, {Id: 65535 - n}, {Options: make([]byte, n%11*4)}} {
			b := ip.Build(h, []byte{1, 2})
			wraps(t, fmt.Sprintf("%+v", h), b, 7, 8, ip.Build(around(h, 7, 8), b)...)
		}
	}
}

// P6.1: of the flags only 2 is kept; a fragment can be wrapped, and what wraps it is none.
func TestWrapFlags(t *testing.T) {
	for flags, want := range []int{0, 0, 2, 2, 0, 0, 2, 2} {
		for _, frag := range []int{0, 1, 8191} {
			b := ip.Build(ip.Header{Flags: flags, Frag: frag, Ttl: 5, Proto: ip.Tcp}, []byte{1})
			what := fmt.Sprint("flags ", flags, ", part ", frag)
			h := ip.Header{Flags: want, Ttl: 64, Proto: 4, Src: 7, Dst: 8}
			wraps(t, what, b, 7, 8, ip.Build(h, b)...)
			unwraps(t, what, ip.Build(h, b), h, b...)
		}
	}
}

// P6.1: any addresses.
func TestWrapAddresses(t *testing.T) {
	ends := []uint32{0, 1, 255, 0xffff, 0x0a000001, 1 << 31, math.MaxUint32 - 1, math.MaxUint32}
	for _, src := range ends {
		for _, dst := range ends {
			wraps(t, fmt.Sprint(src, " to ", dst), oneBytes, src, dst, ip.Build(around(one, src, dst), oneBytes)...)
		}
	}
}

// P6.1: what stands behind the packet is not wrapped.
func TestWrapBehind(t *testing.T) {
	want := ip.Build(around(one, 7, 8), oneBytes)
	for _, n := range []int{1, 2, 20, 9000, 70000} {
		wraps(t, "with bytes behind", append(bytes.Clone(oneBytes), bytes.Repeat([]byte{0x77}, n)...), 7, 8, want...)
	}
	wraps(t, "with itself behind", append(bytes.Clone(oneBytes), oneBytes...), 7, 8, want...)
}

// P6.1: the whole has up to MaxPacket bytes, whatever the packet's head has, and what stands behind it.
func TestWrapLong(t *testing.T) {
	for n := 0; n <= 40; n += 20 {
		h := ip.Header{Tos: 1, Options: make([]byte, n)}
		sized := func(size int) []byte { return ip.Build(h, bytes.Repeat([]byte{0x77}, size-20-n)) }
		for _, size := range []int{8979, 8980} {
			b := sized(size)
			want := ip.Build(around(h, 7, 8), b)
			is(t, "the whole's length", len(want), size+20)
			wraps(t, fmt.Sprint(size, " bytes"), b, 7, 8, want...)
			wraps(t, fmt.Sprint(size, " bytes, more behind"), append(b, 1, 2, 3), 7, 8, want...)
		}
		for _, size := range []int{8981, 8982, 8999, 9000} {
			wrapFails(t, fmt.Sprint(size, " bytes"), sized(size), api.ErrLong)
			wrapFails(t, fmt.Sprint(size, " bytes, more behind"), append(sized(size), 1, 2, 3), api.ErrLong)
		}
	}
}

// P6.1: the errors of ip's Parse, ahead of ErrLong.
func TestWrapNoPacket(t *testing.T) {
	for _, size := range []int{0, 3, 8960, 8961, 8980} {
		for _, x := range broken(ip.Header{Ttl: 1, Proto: 6}, make([]byte, size)) {
			wrapFails(t, x.what, x.b, x.want)
		}
	}
	for n := range len(oneBytes) {
		wrapFails(t, "the begin of a packet", oneBytes[:n], api.ErrShort)
	}
}

// P6.1: the packet within, and the header around it, whatever that says beside.
func TestUnwrap(t *testing.T) {
	unwraps(t, "one", ip.Build(outer(), oneBytes), outer(), oneBytes...)
	bare := ip.Build(ip.Header{}, nil)
	unwraps(t, "nothing", ip.Build(ip.Header{Proto: 4}, bare), ip.Header{Proto: 4}, bare...)
	full := ip.Build(ip.Header{Tos: 3}, make([]byte, 8960))
	unwraps(t, "the longest", ip.Build(ip.Header{Proto: 4}, full), ip.Header{Proto: 4}, full...)
	for n := range 256 {
		for _, h := range []ip.Header{{Tos: n}, {Ttl: n}, {Id: n}, {Id: 256 * n}, {Options: make([]byte, n%11*4)}, {Src: uint32(n) << 24}, {Dst: uint32(n) << 24}} {
			h.Proto = 4
			unwraps(t, fmt.Sprintf("%+v", h), ip.Build(h, oneBytes), h, oneBytes...)
		}
	}
}

// P6.1: what stands behind either packet is not told.
func TestUnwrapBehind(t *testing.T) {
	for _, n := range []int{1, 2, 20, 5000} {
		behind := bytes.Repeat([]byte{0x77}, n)
		within := append(bytes.Clone(oneBytes), behind...)
		unwraps(t, "bytes behind the inner packet", ip.Build(outer(), within), outer(), oneBytes...)
		unwraps(t, "bytes behind the outer packet", append(ip.Build(outer(), oneBytes), behind...), outer(), oneBytes...)
		unwraps(t, "bytes behind both", append(ip.Build(outer(), within), behind...), outer(), oneBytes...)
	}
}

// P6.1: the errors of ip's Parse, ahead of what the header says, and of what is within.
func TestUnwrapNoPacket(t *testing.T) {
	for _, h := range []ip.Header{outer(), {Proto: 4}, {Proto: 17}, {Proto: 4, Frag: 1}, {Proto: 4, Flags: 1}} {
		for _, payload := range [][]byte{oneBytes, nil, oneBytes[:9], bytes.Repeat([]byte{255}, 99)} {
			for _, x := range broken(h, payload) {
				unwrapFails(t, x.what, x.b, x.want)
			}
		}
	}
	b := ip.Build(outer(), oneBytes)
	for n := range b {
		unwrapFails(t, "the begin of a packet", b[:n], api.ErrShort)
	}
}

// P6.1: another protocol, ahead of fragments, and of what is within.
func TestUnwrapProto(t *testing.T) {
	for proto := range 256 {
		if proto == 4 {
			continue
		}
		what := fmt.Sprint("protocol ", proto)
		for _, payload := range [][]byte{oneBytes, nil, oneBytes[:9], otherSum()} {
			h := outer()
			h.Proto = proto
			unwrapFails(t, what, ip.Build(h, payload), api.ErrNone)
			h.Flags = 7
			unwrapFails(t, what+", more behind", ip.Build(h, payload), api.ErrNone)
			h.Frag = 1
			unwrapFails(t, what+", a fragment", ip.Build(h, payload), api.ErrNone)
		}
	}
}

// P6.1: fragments, ahead of what is within; of the flags only 1 says that there are more.
func TestUnwrapFragment(t *testing.T) {
	for _, frag := range []int{0, 1, 2, 255, 256, 4096, 8191} {
		for flags := range 8 {
			h := outer()
			h.Flags, h.Frag = flags, frag
			what := fmt.Sprint("flags ", flags, ", part ", frag)
			if frag == 0 && flags%2 == 0 {
				unwraps(t, what, ip.Build(h, oneBytes), h, oneBytes...)
				continue
			}
			for _, payload := range [][]byte{oneBytes, nil, oneBytes[:9], bytes.Repeat([]byte{255}, 99)} {
				unwrapFails(t, what, ip.Build(h, payload), api.ErrState)
			}
		}
	}
}

// P6.1: of what is within the errors of ip's Parse.
func TestUnwrapWithin(t *testing.T) {
	for _, h := range []ip.Header{one, outer(), {Proto: 17}} {
		for _, x := range broken(h, []byte("xyz")) {
			if b := ip.Build(ip.Header{Proto: 4}, x.b); len(b) > 0 { // 9001 bytes are within no packet
				unwrapFails(t, x.what, b, x.want)
			}
		}
	}
	for n := range oneBytes {
		// The rest stands behind the outer packet: it is none of what is within.
		b := append(ip.Build(outer(), oneBytes[:n]), oneBytes[n:]...)
		unwrapFails(t, "the begin of a packet", b, api.ErrShort)
	}
	long := append([]byte{0x45, 0, 35, 41}, make([]byte, 8956)...)
	unwrapFails(t, "one that says that it has 9001 bytes", ip.Build(ip.Header{Proto: 4}, long), api.ErrShort)
}

// P6.1: the packet within is told as it stands, also with the other sum that is right.
func TestOtherSum(t *testing.T) {
	b := otherSum()
	h := ip.Header{Id: int(b[4])<<8 | int(b[5]), Ttl: 64, Proto: 4, Src: 7, Dst: 8}
	wraps(t, "another sum", b, 7, 8, ip.Build(h, b)...)
	unwraps(t, "another sum", ip.Build(h, b), h, b...)
}
