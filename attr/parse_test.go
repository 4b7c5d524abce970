package attr_test

import (
	"bytes"
	"fmt"
	"math/rand"
	"slices"
	"testing"

	"fairway/api"
	"fairway/attr"
)

// Attributes that may be, in bytes.
var (
	origin  = []byte{64, 1, 1, 0}
	path    = []byte{64, 2, 4, 2, 1, 0, 7}
	nextHop = []byte{64, 3, 4, 10, 0, 0, 1}
	med     = []byte{128, 4, 4, 0, 0, 0, 5}
)

func join(l ...[]byte) []byte { return bytes.Join(l, nil) }

// parses: Parse of b tells these attributes, and keeps b.
func parses(t *testing.T, what string, b []byte, want attr.Attrs) {
	t.Helper()
	was := bytes.Clone(b)
	a, f := attr.Parse(b)
	faulty(t, what, f, 0, 0)
	alike(t, what, a, want)
	list(t, what+": what was handed in", b, was...)
}

// fails: Parse of b tells this fault, and nothing beside it.
func fails(t *testing.T, what string, b []byte, sub int, data ...byte) {
	t.Helper()
	was := bytes.Clone(b)
	a, f := attr.Parse(b)
	faulty(t, what, f, 3, sub, data...)
	alike(t, what, a, attr.Attrs{})
	list(t, what+": what was handed in", b, was...)
}

// P7.3: attributes in any order, with lengths of one byte and of two; those that nothing is known of are left out.
func TestParse(t *testing.T) {
	plain := attr.Attrs{Path: []int{7}, NextHop: hop}
	withMed := attr.Attrs{Path: []int{7}, NextHop: hop, Med: 5, HasMed: true}
	parses(t, "without med", join(origin, path, nextHop), plain)
	parses(t, "with med", join(origin, path, nextHop, med), withMed)
	parses(t, "the other way round", join(med, nextHop, path, origin), withMed)
	parses(t, "extended", []byte{
		80, 1, 0, 1, 2, 80, 2, 0, 4, 1, 1, 1, 0, 80, 3, 0, 4, 1, 2, 3, 4, 144, 4, 0, 4, 255, 255, 255, 255,
	}, attr.Attrs{Origin: 2, Path: []int{256}, NextHop: 0x01020304, Med: 0xffffffff, HasMed: true})
	parses(t, "a med of 0", join(origin, path, nextHop, []byte{128, 4, 4, 0, 0, 0, 0}), attr.Attrs{Path: []int{7}, NextHop: hop, HasMed: true})
	parses(t, "others", join([]byte{192, 8, 4, 1, 2, 3, 4}, origin, []byte{128, 0, 0}, path, []byte{255, 255, 0, 1, 9}, nextHop, []byte{240, 5, 0, 0}), plain)
}

// P7.3: numbers at their ends.
func TestParseNumbers(t *testing.T) {
	for n := range 256 {
		b := []byte{64, 1, 1, byte(n)}
		if n < 3 {
			parses(t, fmt.Sprint("origin ", n), join(b, path, nextHop), attr.Attrs{Origin: n, Path: []int{7}, NextHop: hop})
		} else {
			fails(t, fmt.Sprint("origin ", n), join(b, path, nextHop), 6, b...)
		}
	}
	four := func(to uint32) []byte {
		return []byte{64, 3, 4, byte(to >> 24), byte(to >> 16), byte(to >> 8), byte(to)}
	}
	for _, to := range hops {
		parses(t, fmt.Sprint("next hop ", to), join(origin, path, four(to)), attr.Attrs{Path: []int{7}, NextHop: to})
	}
	for _, to := range noHops {
		fails(t, fmt.Sprint("next hop ", to), join(origin, path, four(to)), 8, four(to)...)
	}
}

// P7.3, Sub 1: a Type that was met ahead, also one that is left out; its bytes are not looked at.
func TestParseTwice(t *testing.T) {
	whole := join(origin, path, nextHop, med, []byte{192, 8, 0, 128, 0, 0, 128, 255, 0})
	for _, again := range [][]byte{
		origin, path, nextHop, med,
		{192, 8, 0}, {128, 8, 1, 5}, {128, 0, 0}, {128, 255, 0},
		{0, 1, 0}, {64, 1, 1, 3}, {64, 2, 1, 3}, {64, 3, 4, 0, 0, 0, 0}, {64, 4, 0}, {0, 8, 0}, {0, 0, 0}, {80, 255, 0, 0},
	} {
		fails(t, fmt.Sprint("again ", again), join(whole, again), 1)
		fails(t, fmt.Sprint("again, ahead of another fault: ", again), join(whole, again, []byte{0, 77, 0}), 1)
	}
	fails(t, "twice before one is missing", join(origin, origin), 1)
	fails(t, "a type left out, at once again", []byte{128, 8, 0, 128, 8, 0}, 1)
}

// P7.3, Sub 4: all 256 Flags of each type that is known.
func TestParseFlags(t *testing.T) {
	parts := [][]byte{origin, path, nextHop, med}
	for i, part := range parts {
		for flags := range 256 {
			own := bytes.Clone(part)
			own[0] = byte(flags)
			if flags/16%2 == 1 {
				own = slices.Insert(own, 2, 0)
			}
			l := slices.Clone(parts)
			l[i] = own
			what := fmt.Sprint("type ", i+1, ", flags ", flags)
			if flags == int(part[0]) || flags == int(part[0])+16 {
				parses(t, what, join(l...), attr.Attrs{Path: []int{7}, NextHop: hop, Med: 5, HasMed: true})
			} else {
				fails(t, what, join(l...), 4, own...)
			}
		}
	}
}

// P7.3, Sub 2: all 256 Flags of types that are not known.
func TestParseUnknown(t *testing.T) {
	for _, kind := range []byte{0, 5, 6, 127, 128, 255} {
		for flags := range 256 {
			own := []byte{byte(flags), kind, 2, 1, 2}
			if flags/16%2 == 1 {
				own = slices.Insert(own, 2, 0)
			}
			b := join(origin, own, path, nextHop)
			what := fmt.Sprint("type ", kind, ", flags ", flags)
			if flags >= 128 {
				parses(t, what, b, attr.Attrs{Path: []int{7}, NextHop: hop})
			} else {
				fails(t, what, b, 2, own...)
			}
		}
	}
	fails(t, "without a value", join(origin, path, nextHop, []byte{64, 9, 0}), 2, 64, 9, 0)
	long := append([]byte{80, 9, 1, 44}, fill(300)...)
	fails(t, "with a long value", join(origin, path, nextHop, long), 2, long...)
}

// P7.3, Sub 5: Values of other lengths, also with a length of two bytes.
func TestParseSizes(t *testing.T) {
	right := map[byte]int{1: 1, 3: 4, 4: 4}
	for _, kind := range []byte{1, 3, 4} {
		flags := byte(64)
		if kind == 4 {
			flags = 128
		}
		for n := range 300 {
			long := join([]byte{flags + 16, kind, byte(n / 256), byte(n % 256)}, bytes.Repeat([]byte{1}, n))
			forms := [][]byte{long}
			if n < 256 {
				forms = append(forms, join([]byte{flags, kind, byte(n)}, bytes.Repeat([]byte{1}, n)))
			}
			for _, own := range forms {
				what := fmt.Sprint("type ", kind, " of ", n)
				b := join(own, []byte{0, 77, 0}) // what follows has a fault of its own
				if n == right[kind] {
					fails(t, what, b, 2, 0, 77, 0)
				} else {
					fails(t, what, b, 5, own...)
				}
			}
		}
	}
}

// pathOf: the attribute of a path of that Value.
func pathOf(value ...byte) []byte {
	return join([]byte{80, 2, byte(len(value) / 256), byte(len(value) % 256)}, value)
}

// part: one of a path, of so many numbers from first on.
func part(kind byte, first, n int) []byte {
	b := []byte{kind, byte(n)}
	for i := range n {
		b = append(b, byte((first+i)/256), byte((first+i)%256))
	}
	return b
}

// P7.3: a path has the numbers of all parts, of both kinds, in order.
func TestParsePath(t *testing.T) {
	for _, x := range []struct {
		value []byte
		want  []int
	}{
		{nil, nil},
		{[]byte{2, 1, 0, 1}, []int{1}},
		{[]byte{1, 1, 255, 255}, []int{65535}},
		{[]byte{2, 2, 0, 9, 0, 3}, []int{9, 3}},
		{[]byte{1, 2, 0, 9, 0, 9, 2, 1, 1, 0, 1, 1, 0, 2}, []int{9, 9, 256, 2}},
		{part(2, 300, 16), longPath(16)},
		{join(part(2, 300, 15), part(1, 315, 1)), longPath(16)},
		{join(part(1, 300, 1), part(1, 301, 1), part(2, 302, 14)), longPath(16)},
	} {
		parses(t, fmt.Sprint("path ", x.value), join(origin, pathOf(x.value...), nextHop), attr.Attrs{Path: x.want, NextHop: hop})
	}
}

// P7.3, Sub 11: bytes that are no path, and paths that may not be; no data, and at the attribute's turn.
func TestParseNoPath(t *testing.T) {
	for _, value := range [][]byte{
		{0}, {1}, {2}, {2, 0}, {1, 0}, {2, 1}, {2, 1, 0}, {2, 2, 0, 1}, {2, 2, 0, 1, 0},
		{0, 0}, {0, 1, 0, 1}, {3, 1, 0, 1}, {4, 1, 0, 1}, {255, 1, 0, 1}, {64, 1, 0, 1},
		{2, 1, 0, 1, 0}, {2, 1, 0, 1, 2}, {2, 1, 0, 1, 2, 0}, {2, 1, 0, 1, 3, 1, 0, 2}, {2, 1, 0, 1, 2, 1}, {2, 1, 0, 1, 2, 1, 5},
		{2, 0, 2, 1, 0, 1}, {2, 255, 0, 1}, {0, 7}, {1, 1, 0, 0}, {2, 1, 0, 0}, {2, 2, 0, 1, 0, 0}, {2, 2, 0, 0, 0, 1}, {2, 1, 0, 1, 1, 1, 0, 0},
		part(2, 300, 17), part(1, 300, 17), part(2, 300, 255), join(part(2, 300, 16), part(2, 1, 1)), join(part(1, 1, 9), part(2, 1, 8)),
		bytes.Repeat([]byte{2, 1, 0, 1}, 17), bytes.Repeat([]byte{2, 1, 0, 1}, 16000),
	} {
		what := fmt.Sprint("path ", value[:min(len(value), 12)])
		fails(t, what, join(origin, pathOf(value...), nextHop), 11)
		fails(t, what+", ahead of another fault", join(pathOf(value...), []byte{64, 1, 1, 3}), 11)
		fails(t, what+", behind another fault", join([]byte{64, 1, 1, 3}, pathOf(value...)), 6, 64, 1, 1, 3)
	}
}

// P7.3, Sub 3: the first that is missing, behind all other faults.
func TestParseMissing(t *testing.T) {
	fails(t, "nothing", nil, 3, 1)
	fails(t, "empty", []byte{}, 3, 1)
	for n := range 16 {
		var l [][]byte
		missing := 0
		for i, part := range [][]byte{origin, path, nextHop, med} {
			if n>>i&1 == 1 {
				l = append(l, part)
			} else if i < 3 && missing == 0 {
				missing = i + 1
			}
		}
		if missing == 0 {
			continue
		}
		slices.Reverse(l)
		what := fmt.Sprintf("of the four: %04b", n)
		fails(t, what, join(l...), 3, byte(missing))
		fails(t, what+", with another", join(join(l...), []byte{128, 9, 0}), 3, byte(missing))
		fails(t, what+", with another fault behind", join(join(l...), []byte{0, 9, 0}), 2, 0, 9, 0)
		fails(t, what+", with bytes that lack their end", join(join(l...), []byte{128, 9}), 1)
	}
}

// P7.3: of several faults of one attribute the one that is named first; of several attributes that of the first one; Split's ahead of all.
func TestParseOrder(t *testing.T) {
	for _, x := range []struct {
		what string
		b    []byte
		sub  int
		data []byte
	}{
		{"flags ahead of the size", []byte{128, 1, 2, 9, 9}, 4, []byte{128, 1, 2, 9, 9}},
		{"flags ahead of the number", []byte{65, 1, 1, 9}, 4, []byte{65, 1, 1, 9}},
		{"flags ahead of the path", []byte{192, 2, 1, 9}, 4, []byte{192, 2, 1, 9}},
		{"flags ahead of the hop", []byte{96, 3, 4, 0, 0, 0, 0}, 4, []byte{96, 3, 4, 0, 0, 0, 0}},
		{"size ahead of the number", []byte{80, 1, 0, 2, 9, 9}, 5, []byte{80, 1, 0, 2, 9, 9}},
		{"size ahead of the hop", []byte{64, 3, 3, 0, 0, 0}, 5, []byte{64, 3, 3, 0, 0, 0}},
		{"the first attribute's, hop", []byte{64, 3, 4, 0, 0, 0, 0, 64, 1, 1, 3}, 8, []byte{64, 3, 4, 0, 0, 0, 0}},
		{"the first attribute's, origin", []byte{64, 1, 1, 3, 64, 3, 4, 0, 0, 0, 0}, 6, []byte{64, 1, 1, 3}},
		{"the first attribute's, unknown", []byte{64, 9, 0, 64, 9, 0}, 2, []byte{64, 9, 0}},
		{"the first attribute's, not that it comes twice", []byte{64, 1, 1, 3, 64, 1, 1, 3}, 6, []byte{64, 1, 1, 3}},
		{"that the end is lacking ahead of all", []byte{64, 1, 1, 3, 64, 3, 4, 0, 0, 0}, 1, nil},
	} {
		fails(t, x.what, x.b, x.sub, x.data...)
	}
	fails(t, "the document's", append([]byte{64, 1, 1, 9}, attr.Bytes(full())[4:]...), 6, 64, 1, 1, 9)
}

// P7.4: Parse of Bytes leads back.
func TestParseOfBytes(t *testing.T) {
	for _, a := range goods() {
		parses(t, fmt.Sprintf("%+v", a), attr.Bytes(a), a)
	}
	r := rand.New(rand.NewSource(3))
	for range 5000 {
		a := attr.Attrs{Origin: r.Intn(3), NextHop: r.Uint32(), HasMed: r.Intn(2) == 0}
		for range r.Intn(17) {
			a.Path = append(a.Path, 1+r.Intn(65535))
		}
		if a.HasMed {
			a.Med = int(r.Uint32())
		}
		b := attr.Bytes(a)
		is(t, "bytes of what is Good", len(b) > 0, attr.Good(a))
		if !attr.Good(a) {
			continue
		}
		parses(t, "any", b, a)
		got, _ := attr.Parse(b)
		is(t, "Same", attr.Same(got, a), true)
	}
}

// R3: what is answered shares nothing with what was handed in, nor with what is answered next.
func TestParseMemory(t *testing.T) {
	b := attr.Bytes(full())
	a, _ := attr.Parse(b)
	clear(b)
	alike(t, "behind bytes that were changed", a, full())

	wrong := []byte{64, 9, 2, 1, 2, 90, 91}
	for range 2 {
		_, f := attr.Parse(wrong[:5])
		list(t, "data", f.Data, 64, 9, 2, 1, 2)
		spoil(f.Data)
		_, f = attr.Parse(origin)
		list(t, "data of what is missing", f.Data, 2)
		spoil(f.Data)
		list(t, "what was handed in", wrong, 64, 9, 2, 1, 2, 90, 91)

		b = attr.Bytes(full())
		a, _ = attr.Parse(b)
		clear(a.Path[:cap(a.Path)])
		list(t, "what was handed in", b, attr.Bytes(full())...)
	}
}

// plain is Parse again, by what the chapter says, straight from the bytes.
func plain(b []byte) (attr.Attrs, api.Fault) {
	bad := func(sub int, data []byte) (attr.Attrs, api.Fault) {
		return attr.Attrs{}, api.Fault{Code: 3, Sub: sub, Data: data}
	}
	var whole, values [][]byte
	for len(b) > 0 {
		head, size := 3, 0
		if len(b) > 0 && b[0]/16%2 == 1 {
			head = 4
		}
		if len(b) < head {
			return bad(1, nil)
		}
		if size = int(b[2]); head == 4 {
			size = int(b[2])*256 + int(b[3])
		}
		if len(b) < head+size {
			return bad(1, nil)
		}
		whole, values = append(whole, b[:head+size]), append(values, b[head:head+size])
		b = b[head+size:]
	}
	var a attr.Attrs
	met := map[byte]bool{}
	for i, own := range whole {
		flags, kind, value := own[0], own[1], values[i]
		if met[kind] {
			return bad(1, nil)
		}
		met[kind] = true
		switch {
		case kind >= 1 && kind <= 3 && flags != 64 && flags != 80, kind == 4 && flags != 128 && flags != 144:
			return bad(4, own)
		case kind == 1 && len(value) != 1, (kind == 3 || kind == 4) && len(value) != 4:
			return bad(5, own)
		case kind == 1 && value[0] > 2:
			return bad(6, own)
		case kind == 1:
			a.Origin = int(value[0])
		case kind == 2:
			for len(value) > 0 {
				if value[0] < 1 || value[0] > 2 || len(value) < 2 || value[1] == 0 || len(value) < 2+2*int(value[1]) {
					return bad(11, nil)
				}
				for j := range int(value[1]) {
					a.Path = append(a.Path, int(value[2+2*j])*256+int(value[3+2*j]))
				}
				value = value[2+2*int(value[1]):]
			}
			if len(a.Path) > 16 || slices.Contains(a.Path, 0) {
				return bad(11, nil)
			}
		case kind == 3 && (bytes.Equal(value, make([]byte, 4)) || value[0] == 127 || value[0] >= 224):
			return bad(8, own)
		case kind == 3:
			a.NextHop = uint32(value[0])<<24 | uint32(value[1])<<16 | uint32(value[2])<<8 | uint32(value[3])
		case kind == 4:
			a.Med, a.HasMed = int(value[0])<<24|int(value[1])<<16|int(value[2])<<8|int(value[3]), true
		case flags < 128:
			return bad(2, own)
		}
	}
	for kind := byte(1); kind <= 3; kind++ {
		if !met[kind] {
			return bad(3, []byte{kind})
		}
	}
	return a, api.Fault{}
}

// anyOf: attributes most of which may be, and some bytes changed.
func anyOf(r *rand.Rand) []byte {
	l := [][]byte{origin, path, nextHop, med, {192, 8, 1, 2}, {64, 2, 10, 2, 2, 0, 1, 0, 2, 1, 1, 0, 3}, {80, 1, 0, 1, 2}, {64, 3, 4, 224, 0, 0, 1}}
	var b []byte
	for _, i := range r.Perm(len(l))[:3+r.Intn(3)] {
		b = append(b, l[i]...)
	}
	for range r.Intn(3) {
		if i := r.Intn(len(b)); r.Intn(2) == 0 {
			b[i] = []byte{0, 1, 2, 3, 4, 127, 255}[r.Intn(7)]
		} else {
			b[i] ^= 1 << r.Intn(8)
		}
	}
	return b
}

// P7.1, P7.3: any bytes, against the plain one.
func TestParseAgainstPlain(t *testing.T) {
	r := rand.New(rand.NewSource(4))
	met := map[int]int{}
	for range 60000 {
		b := anyOf(r)
		want, fault := plain(b)
		met[fault.Sub]++
		a, f := attr.Parse(b)
		faulty(t, fmt.Sprint(b), f, fault.Code, fault.Sub, fault.Data...)
		alike(t, fmt.Sprint(b), a, want)
		if t.Failed() {
			return
		}
	}
	for _, sub := range []int{0, 1, 2, 3, 4, 5, 6, 8, 11} {
		if met[sub] < 20 {
			t.Errorf("sub %d was met %d times only: %v", sub, met[sub], met)
		}
	}
}
