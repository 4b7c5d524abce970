package ip_test

import (
	"bytes"
	"fmt"
	"math"
	"math/rand"
	"testing"

	"fairway/api"
	"fairway/ip"
)

// is holds an answer against what it should be.
func is[T comparable](t *testing.T, what string, got, want T) {
	t.Helper()
	if got != want {
		t.Errorf("%s: %v, want %v", what, got, want)
	}
}

// list holds bytes against what they should be; nil and empty lists are the same.
func list(t *testing.T, what string, got []byte, want ...byte) {
	t.Helper()
	if !bytes.Equal(got, want) {
		t.Errorf("%s: %v, want %v", what, got, want)
	}
}

// header holds a header against what it should be, field by field.
func header(t *testing.T, what string, got, want ip.Header) {
	t.Helper()
	list(t, what+": Options", got.Options, want.Options...)
	got.Options, want.Options = nil, nil
	is(t, what, fmt.Sprintf("%+v", got), fmt.Sprintf("%+v", want))
}

// parses: b's packet is of this header and payload.
func parses(t *testing.T, what string, b []byte, h ip.Header, payload ...byte) {
	t.Helper()
	got, p, err := ip.Parse(b)
	is(t, what, err, api.OK)
	header(t, what, got, h)
	list(t, what+": payload", p, payload...)
}

// fails: every call that parses b tells this error, and nothing beside it.
func fails(t *testing.T, what string, b []byte, want api.Errno) {
	t.Helper()
	h, p, err := ip.Parse(b)
	is(t, what+": Parse", err, want)
	header(t, what+": Parse", h, ip.Header{})
	list(t, what+": Parse's payload", p)
	p, err = ip.Forward(b)
	is(t, what+": Forward", err, want)
	list(t, what+": Forward", p)
	p, err = ip.Rewrite(b, 7)
	is(t, what+": Rewrite", err, want)
	list(t, what+": Rewrite", p)
}

// plainOf is a check sum by another way: of bytes that are not all 0 what is left by 65535 is never 0, but 65535.
func plainOf(b []byte) int {
	total := 0
	for at, x := range b {
		total += int(x) << (8 * (1 - at%2))
	}
	if total == 0 {
		return 65535
	}
	return 65535 - ((total-1)%65535 + 1)
}

// sum puts the right check sum into a head of n bytes.
func sum(b []byte, n int) []byte {
	b = bytes.Clone(b)
	b[10], b[11] = 0, 0
	s := plainOf(b[:n])
	b[10], b[11] = byte(s>>8), byte(s)
	return b
}

// plain is a packet of the chapter's parts, of a Good header.
func plain(h ip.Header, payload []byte) []byte {
	head := 20 + len(h.Options)
	size := head + len(payload)
	b := []byte{
		byte(4*16 + head/4), byte(h.Tos), byte(size >> 8), byte(size),
		byte(h.Id >> 8), byte(h.Id), byte((h.Flags*8192 + h.Frag) >> 8), byte(h.Flags*8192 + h.Frag),
		byte(h.Ttl), byte(h.Proto), 0, 0,
		byte(h.Src >> 24), byte(h.Src >> 16), byte(h.Src >> 8), byte(h.Src),
		byte(h.Dst >> 24), byte(h.Dst >> 16), byte(h.Dst >> 8), byte(h.Dst),
	}
	b = append(b, h.Options...)
	return sum(append(b, payload...), head)
}

// one is a header each of whose parts has bits of its own, and oneBytes its head, with a payload of three bytes.
var (
	one = ip.Header{
		Tos: 0xb8, Id: 0x1234, Flags: 5, Frag: 0x0abc, Ttl: 64, Proto: ip.Udp,
		Src: 0xc0a80001, Dst: 0x0a0b0c0d, Options: []byte{1, 2, 3, 4, 5, 6, 7, 8},
	}
	oneBytes = []byte{
		0x47, 0xb8, 0, 31, 0x12, 0x34, 0xaa, 0xbc, 64, 17, 0xd4, 0x50,
		0xc0, 0xa8, 0, 1, 0x0a, 0x0b, 0x0c, 0x0d, 1, 2, 3, 4, 5, 6, 7, 8, 'x', 'y', 'z',
	}
)

// some makes a Good header, many parts of it at their ends.
func some(r *rand.Rand) ip.Header {
	upTo := func(most int) int { return []int{0, 1, most - 1, most, r.Intn(most + 1), r.Intn(most + 1)}[r.Intn(6)] }
	return ip.Header{
		Tos: upTo(255), Id: upTo(65535), Flags: upTo(7), Frag: upTo(8191), Ttl: upTo(255), Proto: upTo(255),
		Src: uint32(upTo(math.MaxUint32)), Dst: uint32(upTo(math.MaxUint32)), Options: someBytes(r, 4*upTo(10)),
	}
}

func someBytes(r *rand.Rand, n int) []byte {
	b := make([]byte, n)
	for i := range b {
		b[i] = []byte{0, 255, byte(r.Intn(256)), byte(r.Intn(256))}[r.Intn(4)]
	}
	return b
}

// P4.1: the protocols' numbers.
func TestProtocols(t *testing.T) {
	is(t, "Tcp", ip.Tcp, 6)
	is(t, "Udp", ip.Udp, 17)
	is(t, "Tunnel", ip.Tunnel, 4)
}

// P4.1: each part at its place.
func TestBuild(t *testing.T) {
	list(t, "Build", ip.Build(one, []byte("xyz")), oneBytes...)
	list(t, "Build of nothing", ip.Build(ip.Header{}, nil), 0x45, 0, 0, 20, 0, 0, 0, 0, 0, 0, 0xba, 0xeb, 0, 0, 0, 0, 0, 0, 0, 0)
	known := ip.Header{Flags: 2, Ttl: 64, Proto: 17, Src: 0xc0a80001, Dst: 0xc0a800c7}
	list(t, "Build of a known head", ip.Build(known, make([]byte, 95))[:20],
		0x45, 0, 0, 0x73, 0, 0, 0x40, 0, 0x40, 0x11, 0xb8, 0x61, 0xc0, 0xa8, 0, 1, 0xc0, 0xa8, 0, 0xc7)
	example := ip.Build(ip.Header{}, nil)
	is(t, "length of the example", len(example), 20)
	is(t, "first byte of the example", example[0], 69)
}

// P4.1: each part alone, at its greatest.
func TestBuildParts(t *testing.T) {
	for _, x := range []struct {
		name  string
		h     ip.Header
		at    int
		bytes []byte
	}{
		{"Tos", ip.Header{Tos: 255}, 1, []byte{255}},
		{"Id", ip.Header{Id: 65535}, 4, []byte{255, 255}},
		{"Id of 258", ip.Header{Id: 258}, 4, []byte{1, 2}},
		{"Flags", ip.Header{Flags: 7}, 6, []byte{0xe0, 0}},
		{"Flags of 1", ip.Header{Flags: 1}, 6, []byte{0x20, 0}},
		{"Frag", ip.Header{Frag: 8191}, 6, []byte{0x1f, 255}},
		{"Flags and Frag", ip.Header{Flags: 7, Frag: 8191}, 6, []byte{255, 255}},
		{"Ttl", ip.Header{Ttl: 255}, 8, []byte{255}},
		{"Proto", ip.Header{Proto: 255}, 9, []byte{255}},
		{"Src", ip.Header{Src: 0x01020304}, 12, []byte{1, 2, 3, 4}},
		{"Dst", ip.Header{Dst: 0xfffefdfc}, 16, []byte{255, 254, 253, 252}},
	} {
		want := make([]byte, 20)
		want[0], want[3] = 69, 20
		copy(want[x.at:], x.bytes)
		list(t, x.name, ip.Build(x.h, nil), sum(want, 20)...)
	}
}

// P4.1: heads of 5 to 15 words.
func TestBuildOptions(t *testing.T) {
	for n := 0; n <= 40; n += 4 {
		h := ip.Header{Ttl: 9, Options: bytes.Repeat([]byte{0xa5}, n)}
		b := ip.Build(h, []byte{1, 2})
		is(t, "length", len(b), 20+n+2)
		is(t, "first byte", int(b[0]), 64+5+n/4)
		list(t, "options", b[20:20+n], h.Options...)
		list(t, "payload", b[20+n:], 1, 2)
		list(t, "packet", b, plain(h, []byte{1, 2})...)
	}
}

// P4.1: a sum that comes out as 0 stands as 0.
func TestBuildSumOfZero(t *testing.T) {
	h := zeroSum(ip.Header{Ttl: 3, Proto: 6, Src: 0x01020304})
	list(t, "sum", ip.Build(h, nil)[10:12], 0, 0)
}

// zeroSum is h with that Id by which its check sum, without payload, is 0.
func zeroSum(h ip.Header) ip.Header {
	h.Id = 0
	b := plain(h, nil)
	h.Id = int(b[10])<<8 | int(b[11])
	return h
}

// parts: all numbers of a header that have ends, with the greatest they may be.
var parts = []struct {
	name string
	most int
	set  func(h *ip.Header, n int)
}{
	{"Tos", 255, func(h *ip.Header, n int) { h.Tos = n }},
	{"Id", 65535, func(h *ip.Header, n int) { h.Id = n }},
	{"Flags", 7, func(h *ip.Header, n int) { h.Flags = n }},
	{"Frag", 8191, func(h *ip.Header, n int) { h.Frag = n }},
	{"Ttl", 255, func(h *ip.Header, n int) { h.Ttl = n }},
	{"Proto", 255, func(h *ip.Header, n int) { h.Proto = n }},
}

// good: Good says so, and Build builds just then.
func good(t *testing.T, what string, h ip.Header, want bool) {
	t.Helper()
	is(t, what+": Good", ip.Good(h), want)
	is(t, what+": is built", len(ip.Build(h, []byte{1})) > 0, want)
}

// P4.1: each number from 0 to its greatest, and none beside; of others nothing is built.
func TestGood(t *testing.T) {
	good(t, "nothing", ip.Header{}, true)
	good(t, "one", one, true)
	good(t, "any addresses", ip.Header{Src: math.MaxUint32, Dst: math.MaxUint32}, true)
	all := one
	for _, x := range parts {
		for _, n := range []int{0, 1, x.most / 2, x.most - 1, x.most} {
			h := one
			x.set(&h, n)
			good(t, fmt.Sprint(x.name, " ", n), h, true)
		}
		for _, n := range []int{-1, -2, -x.most, x.most + 1, x.most + 2, 2*x.most + 1, 2*x.most + 2, 1 << 16, 1 << 32, 1<<32 + 1, math.MaxInt, math.MinInt, math.MinInt + 1} {
			for _, h := range []ip.Header{one, {}} {
				x.set(&h, n)
				good(t, fmt.Sprint(x.name, " ", n), h, false)
			}
		}
		x.set(&all, x.most)
		good(t, "all up to "+x.name+" at their greatest", all, true)
	}
}

// P4.1: options are whole words, at most ten.
func TestGoodOptions(t *testing.T) {
	for n := range 100 {
		good(t, fmt.Sprint("options of ", n), ip.Header{Options: make([]byte, n)}, n%4 == 0 && n <= 40)
	}
	good(t, "options that are empty", ip.Header{Options: []byte{}}, true)
	good(t, "options with room behind", ip.Header{Options: make([]byte, 4, 99)}, true)
	good(t, "options of many", ip.Header{Options: make([]byte, 1<<16)}, false)
}

// P4.1: up to MaxPacket bytes, whatever the head has of them.
func TestBuildLong(t *testing.T) {
	for n := 0; n <= 40; n += 20 {
		h := ip.Header{Options: make([]byte, n)}
		full := bytes.Repeat([]byte{7}, api.MaxPacket-20-n)
		b := ip.Build(h, full)
		list(t, "Build of the longest", b, plain(h, full)...)
		is(t, "its length", len(b), 9000)
		parses(t, "Parse of the longest", b, h, full...)
		list(t, "Build of one too long", ip.Build(h, append(full, 7)))
		list(t, "Build of one by far too long", ip.Build(h, make([]byte, 1<<17)))
	}
	list(t, "Build of 65536 and some", ip.Build(ip.Header{}, make([]byte, 65536)))
}

// P4.2: the parts, and nothing of what stands behind.
func TestParse(t *testing.T) {
	parses(t, "Parse", oneBytes, one, 'x', 'y', 'z')
	for _, n := range []int{1, 2, 20, 5000, 70000} {
		parses(t, "Parse with bytes behind", append(bytes.Clone(oneBytes), make([]byte, n)...), one, 'x', 'y', 'z')
		parses(t, "Parse with bytes behind", append(bytes.Clone(oneBytes), bytes.Repeat([]byte{255}, n)...), one, 'x', 'y', 'z')
	}
	bare := plain(ip.Header{Ttl: 1}, nil)
	parses(t, "Parse of a head alone", bare, ip.Header{Ttl: 1})
	parses(t, "Parse of two", append(bytes.Clone(bare), oneBytes...), ip.Header{Ttl: 1})
	parses(t, "Parse of the greatest parts", plain(greatest(), []byte{0}), greatest(), 0)
}

// greatest is a header of the greatest parts.
func greatest() ip.Header {
	return ip.Header{
		Tos: 255, Id: 65535, Flags: 7, Frag: 8191, Ttl: 255, Proto: 255,
		Src: math.MaxUint32, Dst: math.MaxUint32, Options: bytes.Repeat([]byte{255}, 40),
	}
}

// P4.2: too few bytes for the least head, ahead of all else.
func TestParseShort(t *testing.T) {
	fails(t, "nil", nil, api.ErrShort)
	fails(t, "empty", []byte{}, api.ErrShort)
	for n := range 20 {
		fails(t, "the begin of a packet", oneBytes[:n], api.ErrShort)
		fails(t, "the begin of no packet", make([]byte, n), api.ErrShort)
		fails(t, "the begin of no packet", bytes.Repeat([]byte{255}, n), api.ErrShort)
	}
	// What lies in the room behind the end is not there.
	for n := range len(oneBytes) {
		fails(t, "one byte short, or more", oneBytes[:n], api.ErrShort)
	}
}

// P4.2: every first byte, of a right sum and of a wrong one, with bytes enough and too few.
func TestParseFirstByte(t *testing.T) {
	for x := range 256 {
		version, words := x/16, x%16
		b := plain(ip.Header{Ttl: 5, Options: make([]byte, 40)}, []byte{1})
		b[0] = byte(x)
		if version != 4 || words < 5 {
			fails(t, "no first byte", b, api.ErrBad)
			fails(t, "no first byte, 20 bytes", b[:20], api.ErrBad)
			continue
		}
		fails(t, "a first byte, 20 bytes", b[:20], api.ErrShort)
		b = sum(b, 4*words)
		b[19] ^= 1
		fails(t, "a first byte, its sum wrong", b, api.ErrSum)
		b[19] ^= 1
		h := ip.Header{Ttl: 5, Options: make([]byte, 4*words-20)}
		parses(t, "a first byte", b, h, b[4*words:]...)
	}
}

// sized is a packet of that many words of head, that says that it has size bytes, and of which n are there.
func sized(words, size, n int) []byte {
	b := make([]byte, max(n, 4*words))
	b[0], b[2], b[3], b[8] = byte(64+words), byte(size>>8), byte(size), 9
	return sum(b, 4*words)[:n]
}

// P4.2: how many bytes the packet says that it has, against its head, against what is there, and against MaxPacket.
func TestParseSizes(t *testing.T) {
	for _, x := range []struct {
		words, size, have int
		want              api.Errno
	}{
		{5, 20, 20, api.OK},
		{5, 21, 21, api.OK},
		{5, 21, 20, api.ErrShort},
		{5, 20, 21, api.OK},
		{5, 19, 20, api.ErrBad},
		{5, 19, 99, api.ErrBad},
		{5, 0, 20, api.ErrBad},
		{5, 1, 99, api.ErrBad},
		{6, 24, 24, api.OK},
		{6, 24, 23, api.ErrShort},
		{6, 23, 24, api.ErrBad},
		{6, 20, 24, api.ErrBad},
		{6, 20, 23, api.ErrShort}, // fewer than the head: ahead of fewer in the packet than its head
		{6, 0, 20, api.ErrShort},
		{6, 0, 23, api.ErrShort},
		{15, 60, 60, api.OK},
		{15, 60, 59, api.ErrShort},
		{15, 59, 60, api.ErrBad},
		{15, 59, 59, api.ErrShort},
		{15, 61, 60, api.ErrShort},
		{5, 256, 256, api.OK},
		{5, 256, 255, api.ErrShort},
		{5, 9000, 9000, api.OK},
		{5, 9000, 8999, api.ErrShort},
		{5, 9000, 9001, api.OK},
		{5, 9000, 70000, api.OK},
		{5, 9001, 9001, api.ErrBad},
		{5, 9001, 9000, api.ErrShort}, // ahead of more than MaxPacket
		{5, 9001, 70000, api.ErrBad},
		{15, 9000, 9000, api.OK},
		{15, 9001, 9001, api.ErrBad},
		{5, 65535, 65535, api.ErrBad},
		{5, 65535, 65534, api.ErrShort},
		{5, 65535, 20, api.ErrShort},
	} {
		what := fmt.Sprintf("%d words, size %d, %d bytes", x.words, x.size, x.have)
		b := sized(x.words, x.size, x.have)
		if x.want != api.OK {
			fails(t, what, b, x.want)
			continue
		}
		parses(t, what, b, ip.Header{Ttl: 9, Options: make([]byte, 4*x.words-20)}, make([]byte, x.size-4*x.words)...)
		b[11] ^= 1
		fails(t, what+", wrong sum", b, api.ErrSum)
	}
}

// P4.2: a wrong sum is found last of all.
func TestParseSumLast(t *testing.T) {
	for _, x := range []struct {
		words, size, have int
		want              api.Errno
	}{
		{4, 20, 20, api.ErrBad},
		{6, 24, 23, api.ErrShort},
		{5, 21, 20, api.ErrShort},
		{5, 19, 20, api.ErrBad},
		{5, 9001, 9001, api.ErrBad},
		{5, 20, 20, api.ErrSum},
		{15, 9000, 9000, api.ErrSum},
	} {
		b := sized(x.words, x.size, x.have)
		b[12] ^= 0x80
		fails(t, fmt.Sprintf("%d words, size %d, %d bytes", x.words, x.size, x.have), b, x.want)
	}
}

// P4.2: a head with one bit turned is none; of the payload the sum knows nothing.
func TestParseTurnedBits(t *testing.T) {
	for i := range oneBytes {
		for bit := range 8 {
			b := bytes.Clone(oneBytes)
			b[i] ^= 1 << bit
			h, p, err := ip.Parse(b)
			if i < 28 {
				is(t, "Parse of a turned bit", err == api.OK, false)
				header(t, "Parse of a turned bit", h, ip.Header{})
				list(t, "Parse of a turned bit", p)
			} else {
				parses(t, "Parse of a payload's turned bit", b, one, b[28:]...)
			}
		}
	}
}

// P4.2: chk's Good takes a sum of 65535 as one of 0.
func TestParseSumOfZero(t *testing.T) {
	h := zeroSum(ip.Header{Ttl: 3, Proto: 6, Src: 0x01020304})
	b := plain(h, nil)
	parses(t, "a sum of 0", b, h)
	b[10], b[11] = 255, 255
	parses(t, "a sum of 65535", b, h)
	b[11] = 254
	fails(t, "a sum of 65534", b, api.ErrSum)
	b[10], b[11] = 0, 1
	fails(t, "a sum of 1", b, api.ErrSum)
	all := make([]byte, 20) // no head is all 0, so a sum of 0 is never Good by that
	fails(t, "noughts", all, api.ErrBad)
}

// plainParse is the chapter's words, one by one.
func plainParse(b []byte) (ip.Header, []byte, api.Errno) {
	if len(b) < 20 {
		return ip.Header{}, nil, api.ErrShort
	}
	head, size := int(b[0]%16)*4, int(b[2])*256+int(b[3])
	switch {
	case b[0]/16 != 4 || b[0]%16 < 5:
		return ip.Header{}, nil, api.ErrBad
	case len(b) < head || len(b) < size:
		return ip.Header{}, nil, api.ErrShort
	case size < head || size > 9000:
		return ip.Header{}, nil, api.ErrBad
	case plainOf(b[:head]) != 0:
		return ip.Header{}, nil, api.ErrSum
	}
	return ip.Header{
		Tos: int(b[1]), Id: int(b[4])*256 + int(b[5]), Flags: int(b[6]) / 32, Frag: int(b[6])%32*256 + int(b[7]),
		Ttl: int(b[8]), Proto: int(b[9]),
		Src:     uint32(b[12])<<24 + uint32(b[13])<<16 + uint32(b[14])<<8 + uint32(b[15]),
		Dst:     uint32(b[16])<<24 + uint32(b[17])<<16 + uint32(b[18])<<8 + uint32(b[19]),
		Options: b[20:head],
	}, b[head:size], api.OK
}

// turned is a packet in which some bytes were changed, or its length, or nothing, with its sum put right again or not.
func turned(r *rand.Rand) []byte {
	b := plain(some(r), someBytes(r, r.Intn(60)))
	for range r.Intn(3) {
		b[r.Intn(20)] = someBytes(r, 1)[0]
	}
	for range r.Intn(2) {
		b[3] = byte(r.Intn(100))
		b[0] = byte(0x40 + r.Intn(16))
	}
	if n := int(b[0]%16) * 4; n >= 20 && n <= len(b) && r.Intn(2) == 0 {
		b = sum(b, n)
	}
	return append(b, someBytes(r, 9)...)[:r.Intn(len(b)+9)]
}

// P4.2: many bytes, right and wrong.
func TestParseAgainstPlain(t *testing.T) {
	r := rand.New(rand.NewSource(41))
	seen := map[api.Errno]int{}
	for range 30000 {
		b := turned(r)
		was := bytes.Clone(b)
		h, p, err := plainParse(b)
		seen[err]++
		if err == api.OK {
			parses(t, "Parse", b, h, p...)
		} else {
			fails(t, "wrong bytes", b, err)
		}
		list(t, "what was handed in", b, was...)
	}
	for _, err := range []api.Errno{api.OK, api.ErrShort, api.ErrBad, api.ErrSum} {
		if seen[err] < 1000 {
			t.Errorf("%v: %d of 30000: this tests little", err, seen[err])
		}
	}
}

// P4.2: alike in all parts; nil and empty options are the same.
func TestSame(t *testing.T) {
	same := func(what string, a, b ip.Header, want bool) {
		t.Helper()
		is(t, what, ip.Same(a, b), want)
		is(t, what+", the other way", ip.Same(b, a), want)
	}
	same("nothing", ip.Header{}, ip.Header{}, true)
	same("nothing and one", ip.Header{}, one, false)
	twin := one
	twin.Options = append(make([]byte, 0, 99), one.Options...)
	same("one", one, twin, true)
	same("empty options", ip.Header{Ttl: 1, Options: []byte{}}, ip.Header{Ttl: 1}, true)
	for _, x := range parts {
		for _, h := range []ip.Header{one, {}} {
			a, b := h, h
			x.set(&a, x.most)
			for _, n := range []int{0, 1, x.most - 1, x.most + 1, -1, -x.most - 1, math.MaxInt, math.MinInt, 1<<32 + x.most} {
				x.set(&b, n)
				same(fmt.Sprint(x.name, " ", n), a, b, false)
			}
			x.set(&a, math.MinInt)
			x.set(&b, math.MinInt)
			same(x.name+" of what is not Good", a, b, true)
		}
	}
}

// P4.2: addresses and options.
func TestSameAddressesAndOptions(t *testing.T) {
	for _, x := range []struct {
		name string
		set  func(h *ip.Header)
	}{
		{"Src", func(h *ip.Header) { h.Src ^= 1 }},
		{"Src's first bit", func(h *ip.Header) { h.Src ^= 1 << 31 }},
		{"Dst", func(h *ip.Header) { h.Dst ^= 1 }},
		{"Dst's first bit", func(h *ip.Header) { h.Dst ^= 1 << 31 }},
		{"Src and Dst changed", func(h *ip.Header) { h.Src, h.Dst = h.Dst, h.Src }},
		{"Tos and Proto changed", func(h *ip.Header) { h.Tos, h.Proto = h.Proto, h.Tos }},
		{"no options", func(h *ip.Header) { h.Options = nil }},
		{"fewer options", func(h *ip.Header) { h.Options = h.Options[:4] }},
		{"more options", func(h *ip.Header) { h.Options = append(bytes.Clone(h.Options), 0, 0, 0, 0) }},
		{"first option", func(h *ip.Header) { h.Options = []byte{9, 2, 3, 4, 5, 6, 7, 8} }},
		{"last option", func(h *ip.Header) { h.Options = []byte{1, 2, 3, 4, 5, 6, 7, 9} }},
	} {
		h := one
		x.set(&h)
		is(t, x.name, ip.Same(one, h), false)
		is(t, x.name+", the other way", ip.Same(h, one), false)
	}
	long := ip.Header{Options: make([]byte, 1000)} // not Good, but alike or not
	other := ip.Header{Options: make([]byte, 1000)}
	is(t, "long options", ip.Same(long, other), true)
	other.Options[999] = 1
	is(t, "long options, the last one another", ip.Same(long, other), false)
}

// P4.3: a Ttl one less, all else kept, the sum right, nothing of what stands behind.
func TestForward(t *testing.T) {
	for ttl := range 256 {
		h := one
		h.Ttl = ttl
		b := append(plain(h, []byte("xyz")), 1, 2, 3)
		was := bytes.Clone(b)
		got, err := ip.Forward(b)
		if ttl < 2 {
			is(t, "Forward of a Ttl at its end", err, api.ErrRange)
			list(t, "Forward of a Ttl at its end", got)
			continue
		}
		h.Ttl = ttl - 1
		is(t, "Forward", err, api.OK)
		list(t, "Forward", got, plain(h, []byte("xyz"))...)
		list(t, "what was handed in", b, was...)
	}
}

// P4.3: it ends where the Ttl does.
func TestForwardOften(t *testing.T) {
	h := greatest()
	b, steps := plain(h, []byte{1}), 0
	for {
		next, err := ip.Forward(b)
		if err != api.OK {
			is(t, "the end", err, api.ErrRange)
			break
		}
		b = next
		steps++
	}
	h.Ttl = 1
	is(t, "steps", steps, 254)
	parses(t, "the last one", b, h, 1)
}

// P4.3: Parse's errors stand ahead of the Ttl's.
func TestForwardOrder(t *testing.T) {
	for ttl := range 2 {
		b := plain(ip.Header{Ttl: ttl, Proto: 6}, []byte{1, 2})
		fails(t, "Ttl, and too few bytes", b[:21], api.ErrShort)
		b[11] ^= 1
		fails(t, "Ttl, and a wrong sum", b, api.ErrSum)
		b[0] = 0x44
		fails(t, "Ttl, and too few words", b, api.ErrBad)
	}
}

// P4.3: another Dst, all else kept, also a Ttl of 0, the sum right, nothing of what stands behind.
func TestRewrite(t *testing.T) {
	for _, dst := range []uint32{0, 1, 0x0000ffff, 0xffff0000, 0x0a0b0c0d, 1 << 31, math.MaxUint32 - 1, math.MaxUint32} {
		for _, ttl := range []int{0, 1, 2, 255} {
			h := one
			h.Ttl = ttl
			b := append(plain(h, []byte("xyz")), 1, 2, 3)
			was := bytes.Clone(b)
			h.Dst = dst
			got, err := ip.Rewrite(b, dst)
			is(t, "Rewrite", err, api.OK)
			list(t, "Rewrite", got, plain(h, []byte("xyz"))...)
			list(t, "what was handed in", b, was...)
		}
	}
}

// P4.3: the sum is Of, anew, also where it came as 65535: with no word left of the Dst it is 0, not 65535 again.
func TestSumAnew(t *testing.T) {
	h := zeroSum(ip.Header{Ttl: 3, Proto: 6, Src: 0x01020304, Dst: math.MaxUint32})
	b := plain(h, nil)
	b[10], b[11] = 255, 255
	for _, dst := range []uint32{math.MaxUint32, 0, 0xffff, 0xffff0000, 0x0a000001} {
		h.Dst = dst
		got, err := ip.Rewrite(b, dst)
		is(t, "Rewrite", err, api.OK)
		list(t, "Rewrite", got, plain(h, nil)...)
	}
	h.Dst = math.MaxUint32
	h.Ttl = 2
	got, err := ip.Forward(b)
	is(t, "Forward", err, api.OK)
	list(t, "Forward", got, plain(h, nil)...)
}

// P4.3: many packets.
func TestChangesAgainstPlain(t *testing.T) {
	r := rand.New(rand.NewSource(42))
	for range 5000 {
		h, payload := some(r), someBytes(r, r.Intn(30))
		b := append(plain(h, payload), someBytes(r, r.Intn(3))...)
		to := h
		to.Dst = some(r).Dst
		got, err := ip.Rewrite(b, to.Dst)
		is(t, "Rewrite", err, api.OK)
		list(t, "Rewrite", got, plain(to, payload)...)

		got, err = ip.Forward(b)
		if h.Ttl < 2 {
			is(t, "Forward of a Ttl at its end", err, api.ErrRange)
			list(t, "Forward of a Ttl at its end", got)
			continue
		}
		h.Ttl--
		is(t, "Forward", err, api.OK)
		list(t, "Forward", got, plain(h, payload)...)
	}
}

// P4.4: Parse of Build leads back, and Build of Parse to the same bytes.
func TestBack(t *testing.T) {
	r := rand.New(rand.NewSource(43))
	for range 5000 {
		h, payload := some(r), someBytes(r, r.Intn(100))
		b := ip.Build(h, payload)
		list(t, "Build", b, plain(h, payload)...)
		parses(t, "Parse of Build", b, h, payload...)
		got, p, _ := ip.Parse(b)
		is(t, "Same", ip.Same(got, h), true)
		is(t, "Good", ip.Good(got), true)
		list(t, "Build of Parse", ip.Build(got, p), b...)
	}
}

// fill writes over bytes and over the room behind them.
func fill(b []byte) {
	b = b[:cap(b)]
	for i := range b {
		b[i] = 0x77
	}
}

// R3: answers are new memory, their room too, and share none with each other.
func TestMemory(t *testing.T) {
	room := append(bytes.Clone(oneBytes), 1, 2, 3)
	was := bytes.Clone(room)
	b := room[:len(oneBytes)]

	h, p, _ := ip.Parse(b)
	fill(h.Options)
	list(t, "payload beside options that were filled", p, 'x', 'y', 'z')
	fill(p)
	h, p, _ = ip.Parse(b)
	fill(p)
	list(t, "options beside a payload that was filled", h.Options, one.Options...)
	forth, _ := ip.Forward(b)
	fill(forth)
	anew, _ := ip.Rewrite(b, 9)
	fill(anew)
	list(t, "what was handed in", room, was...)

	options := append(make([]byte, 0, 40), one.Options...)
	payload := append(make([]byte, 0, 40), "xyz"...)
	h = one
	h.Options = options
	built := ip.Build(h, payload)
	fill(options)
	fill(payload)
	list(t, "Build, once what was handed in was filled", built, oneBytes...)
	bare := ip.Header{Ttl: 1}
	built = ip.Build(bare, payload[:0])
	fill(built)
	list(t, "room of what was handed in", payload[:40], bytes.Repeat([]byte{0x77}, 40)...)
}

// R3: Build changes nothing of what it is given, nor the room behind.
func TestBuildKeepsRoom(t *testing.T) {
	options, payload := bytes.Repeat([]byte{5}, 60), bytes.Repeat([]byte{6}, 60)
	h := one
	h.Options = options[:4]
	ip.Build(h, payload[:4])
	list(t, "options", options, bytes.Repeat([]byte{5}, 60)...)
	list(t, "payload", payload, bytes.Repeat([]byte{6}, 60)...)
}

// P1: bytes of any kind and length end, and every error tells nothing beside itself.
func TestAnyBytes(t *testing.T) {
	r := rand.New(rand.NewSource(44))
	for range 20000 {
		b := someBytes(r, r.Intn(80))
		if len(b) > 0 && r.Intn(4) > 0 {
			b[0] = byte(0x40 + r.Intn(16))
		}
		h, p, err := plainParse(b)
		if err == api.OK {
			parses(t, "any bytes", b, h, p...)
		} else {
			fails(t, "any bytes", b, err)
		}
	}
}
