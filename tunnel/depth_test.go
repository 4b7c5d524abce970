package tunnel_test

import (
	"bytes"
	"fmt"
	"math/rand"
	"testing"

	"fairway/api"
	"fairway/ip"
	"fairway/tunnel"
)

// nested is b within so many packets of header h, each with bytes behind the one within.
func nested(h ip.Header, b []byte, times int, behind ...byte) []byte {
	for range times {
		b = ip.Build(h, append(bytes.Clone(b), behind...))
	}
	return b
}

// P6.1: how often it can be unwrapped, up to 8.
func TestDepth(t *testing.T) {
	for times := range 20 {
		for _, h := range []ip.Header{{Proto: 4}, outer()} {
			what := fmt.Sprint("wrapped ", times, " times")
			b := nested(h, oneBytes, times)
			is(t, what, tunnel.Depth(b), min(times, 8))
			is(t, what+": Is", tunnel.Is(b), times > 0)
			is(t, what+", bytes behind each", tunnel.Depth(append(nested(h, oneBytes, times, 1, 2, 3), 9)), min(times, 8))
		}
	}
	// As deep as can be: 449 within the outermost one.
	is(t, "the deepest", tunnel.Depth(nested(ip.Header{Proto: 4}, ip.Build(ip.Header{Proto: 4}, nil), 449)), 8)
}

// P6.1: it ends where something is wrong: with a packet that is none it ends ahead of it, and with one that can't be unwrapped at it.
func TestDepthEnds(t *testing.T) {
	for ahead := range 11 {
		for _, x := range []struct {
			what string
			b    []byte
			more int
		}{
			{"nothing", nil, -1},
			{"a byte", []byte{0x45}, -1},
			{"the begin of a packet", nested(outer(), oneBytes, 1)[:50], -1},
			{"a wrong sum", bytes.Replace(nested(outer(), oneBytes, 1), []byte{0x55}, []byte{0x56}, 1), -1},
			{"another protocol", nested(ip.Header{Proto: 5}, oneBytes, 3), 0},
			{"a fragment", nested(ip.Header{Proto: 4, Frag: 1}, oneBytes, 3), 0},
			{"a begin", nested(ip.Header{Proto: 4, Flags: 1}, oneBytes, 3), 0},
			{"a tunnel of nothing", ip.Build(outer(), nil), 0},
			{"a tunnel that ends", ip.Build(outer(), oneBytes[:20]), 0},
			{"a tunnel of a tunnel of nothing", nested(outer(), nil, 2), 1},
		} {
			is(t, fmt.Sprint(x.what, ", ", ahead, " around it"), tunnel.Depth(nested(outer(), x.b, ahead)), min(max(ahead+x.more, 0), 8))
		}
	}
}

// some makes a Good header, many of them such as have a packet within.
func some(r *rand.Rand) ip.Header {
	return ip.Header{
		Tos: r.Intn(256), Id: r.Intn(65536), Flags: 2*r.Intn(4) + r.Intn(20)/19, Frag: r.Intn(8192) * (r.Intn(20) / 19),
		Ttl: r.Intn(256), Proto: []int{4, r.Intn(256)}[r.Intn(20)/19], Src: r.Uint32(), Dst: r.Uint32(), Options: someBytes(r, 4*r.Intn(11)),
	}
}

func someBytes(r *rand.Rand, n int) []byte {
	b := make([]byte, n)
	r.Read(b)
	return b
}

// somePacket is one with others within, or almost one.
func somePacket(r *rand.Rand) []byte {
	b := ip.Build(some(r), someBytes(r, r.Intn(30)))
	for range r.Intn(10) {
		b = append(ip.Build(some(r), b), someBytes(r, r.Intn(3))...)
	}
	if r.Intn(5) == 0 {
		b[r.Intn(len(b))] ^= 1 << r.Intn(8)
	}
	if r.Intn(9) == 0 {
		b = b[:r.Intn(len(b))]
	}
	return b
}

// whole: the packet with which b begins, which ip's Parse takes, without what stands behind.
func whole(b []byte) []byte { return b[:256*int(b[2])+int(b[3])] }

// plainUnwrap is P6.1's words, one by one.
func plainUnwrap(b []byte) ([]byte, ip.Header, api.Errno) {
	h, payload, err := ip.Parse(b)
	_, _, within := ip.Parse(payload)
	switch {
	case err != api.OK:
		return nil, ip.Header{}, err
	case b[9] != 4:
		return nil, ip.Header{}, api.ErrNone
	case b[6]&0x3f != 0 || b[7] != 0:
		return nil, ip.Header{}, api.ErrState
	case within != api.OK:
		return nil, ip.Header{}, within
	}
	return whole(payload), h, api.OK
}

// P6.1, P1: many packets, right and wrong.
func TestUnwrapAgainstPlain(t *testing.T) {
	r := rand.New(rand.NewSource(61))
	seen, deep := map[api.Errno]int{}, map[int]int{}
	for range 30000 {
		b := somePacket(r)
		inner, h, err := plainUnwrap(b)
		seen[err]++
		if err == api.OK {
			unwraps(t, fmt.Sprint(b), b, h, inner...)
		} else {
			unwrapFails(t, fmt.Sprint(b), b, err)
		}
		depth := 0
		for within := b; depth < 8 && err == api.OK; depth++ {
			if within, _, err = plainUnwrap(within); err != api.OK {
				break
			}
		}
		deep[depth]++
		is(t, fmt.Sprint("Depth of ", b), tunnel.Depth(b), depth)
	}
	for _, err := range []api.Errno{api.OK, api.ErrShort, api.ErrBad, api.ErrSum, api.ErrState, api.ErrNone} {
		if seen[err] < 100 {
			t.Errorf("%v: %d of 30000: this tests little", err, seen[err])
		}
	}
	for depth := range 9 {
		if deep[depth] < 100 {
			t.Errorf("depth %d: %d of 30000: this tests little", depth, deep[depth])
		}
	}
}

// P6.2: Unwrap of Wrap is the packet, and Depth is one more; with what stands behind, before and after.
func TestBack(t *testing.T) {
	r := rand.New(rand.NewSource(62))
	for range 5000 {
		h, src, dst := some(r), r.Uint32(), r.Uint32()
		b := ip.Build(h, someBytes(r, r.Intn(200)))
		want := around(h, src, dst)
		wraps(t, "Wrap", append(bytes.Clone(b), someBytes(r, r.Intn(3))...), src, dst, ip.Build(want, b)...)
		c, _ := tunnel.Wrap(b, src, dst)
		unwraps(t, "Unwrap of Wrap", append(c, someBytes(r, r.Intn(3))...), want, b...)
	}
}

// P6.2: what was wrapped often is unwrapped as often.
func TestBackOften(t *testing.T) {
	b := oneBytes
	var all [][]byte
	for n := uint32(0); ; n++ {
		all = append(all, b)
		c, err := tunnel.Wrap(b, n, n+1)
		if err != api.OK {
			is(t, "the end", err, api.ErrLong)
			break
		}
		is(t, "Depth", tunnel.Depth(c), min(int(n)+1, 8))
		b = c
	}
	is(t, "how often", len(all)-1, (9000-len(oneBytes))/20)
	for n := len(all) - 2; n >= 0; n-- {
		var err api.Errno
		b, _, err = tunnel.Unwrap(b)
		is(t, "Unwrap", err, api.OK)
		list(t, "Unwrap", b, all[n]...)
	}
	unwrapFails(t, "the first one", b, api.ErrNone)
}

// P1: bytes of any kind and length end.
func TestAnyBytes(t *testing.T) {
	r := rand.New(rand.NewSource(63))
	for range 10000 {
		b := someBytes(r, r.Intn(100))
		if len(b) > 0 && r.Intn(4) > 0 {
			b[0] = byte(0x40 + r.Intn(16))
		}
		_, _, err := plainUnwrap(b)
		unwrapFails(t, "any bytes", b, err)
		_, _, err = ip.Parse(b)
		wrapFails(t, "any bytes", b, err)
	}
}

// fill writes over bytes and over the room behind them.
func fill(b []byte) {
	b = b[:cap(b)]
	for i := range b {
		b[i] = 0x77
	}
}

// R3: answers are new memory, their room too, and share none with each other.
func TestMemory(t *testing.T) {
	room := append(ip.Build(outer(), append(bytes.Clone(oneBytes), 1, 2, 3)), 4, 5, 6)
	was := bytes.Clone(room)
	b := room[:len(room)-3]

	inner, h, _ := tunnel.Unwrap(b)
	fill(inner)
	list(t, "options beside a packet that was filled", h.Options, outer().Options...)
	fill(h.Options)
	inner, h, _ = tunnel.Unwrap(b)
	fill(h.Options)
	list(t, "a packet beside options that were filled", inner, oneBytes...)
	c, _ := tunnel.Wrap(b, 7, 8)
	fill(c)
	list(t, "what was handed in", room, was...)

	inner, h, _ = tunnel.Unwrap(b)
	c, _ = tunnel.Wrap(b, 7, 8)
	tunnel.Is(b)
	tunnel.Depth(b)
	list(t, "what was handed in, and its room", room, was...)
	fill(room)
	list(t, "Unwrap, once what was handed in was filled", inner, oneBytes...)
	list(t, "its options", h.Options, outer().Options...)
	list(t, "Wrap, once what was handed in was filled", c, ip.Build(around(outer(), 7, 8), was[:len(was)-3])...)
}
