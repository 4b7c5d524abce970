package prefix_test

import (
	"bytes"
	"math"
	"math/rand"
	"slices"
	"testing"

	"fairway/api"
	"fairway/prefix"
	"fairway/wire"
)

// lengthOf: how many bytes a prefix has that is of n bits, Len among them.
func lengthOf(n int) int { return 1 + int(math.Ceil(float64(n)/8)) }

// P3.2: Len, and no more bytes than its bits need.
func TestBytes(t *testing.T) {
	list(t, "Bytes of the example", prefix.Bytes(pre(10, 1, 0, 0, 16)), 16, 10, 1)
	for _, x := range []struct {
		p    api.Prefix
		want []byte
	}{
		{api.Prefix{}, []byte{0}},
		{pre(128, 0, 0, 0, 1), []byte{1, 128}},
		{pre(254, 0, 0, 0, 7), []byte{7, 254}},
		{pre(10, 0, 0, 0, 8), []byte{8, 10}},
		{pre(10, 128, 0, 0, 9), []byte{9, 10, 128}},
		{pre(10, 1, 128, 0, 17), []byte{17, 10, 1, 128}},
		{pre(10, 1, 2, 0, 24), []byte{24, 10, 1, 2}},
		{pre(10, 1, 2, 128, 25), []byte{25, 10, 1, 2, 128}},
		{pre(10, 1, 2, 3, 32), []byte{32, 10, 1, 2, 3}},
		{pre(0, 0, 0, 0, 32), []byte{32, 0, 0, 0, 0}},
	} {
		list(t, "Bytes of "+prefix.Text(x.p), prefix.Bytes(x.p), x.want...)
	}
}

// P3.2: Bytes are those of Canon.
func TestBytesOfCanon(t *testing.T) {
	list(t, "Bytes of bits behind Len", prefix.Bytes(pre(10, 255, 2, 3, 11)), 11, 10, 224)
	list(t, "Bytes of below 0", prefix.Bytes(pre(10, 1, 2, 3, -1)), 0)
	list(t, "Bytes of above 32", prefix.Bytes(pre(10, 1, 2, 3, 33)), 32, 10, 1, 2, 3)
	for n, near := range lens {
		for _, a := range addrs {
			m := a & plainMask(near)
			want := []byte{byte(near), byte(m >> 24), byte(m >> 16), byte(m >> 8), byte(m)}
			list(t, "Bytes", prefix.Bytes(api.Prefix{Addr: a, Len: n}), want[:lengthOf(near)]...)
		}
	}
}

// P3.2: a source's prefixes one by one, and what stands behind them stays.
func TestRead(t *testing.T) {
	s := wire.Read([]byte{16, 10, 1, 0, 9, 10, 129, 32, 1, 2, 3, 4, 77})
	for _, x := range []struct {
		want api.Prefix
		at   int
	}{
		{pre(10, 1, 0, 0, 16), 3},
		{api.Prefix{}, 4},
		{pre(10, 128, 0, 0, 9), 7}, // its last seven bits count as 0
		{pre(1, 2, 3, 4, 32), 12},
	} {
		p, ok := prefix.Read(s)
		is(t, "Read's prefix", p, x.want)
		is(t, "Read", ok, true)
		is(t, "At", s.At(), x.at)
	}
	is(t, "what is behind", s.U8(), 77)
	is(t, "End", s.End(), api.OK)
}

// P3.2: every Len reads just as many bytes as it needs; bits behind it count as 0.
func TestReadEachLen(t *testing.T) {
	for n := range 33 {
		for _, a := range addrs {
			b := []byte{byte(n), byte(a >> 24), byte(a >> 16), byte(a >> 8), byte(a)}
			s := wire.Read(b)
			p, ok := prefix.Read(s)
			is(t, "Read's prefix", p, api.Prefix{Addr: a & plainMask(n), Len: n})
			is(t, "Read", ok, true)
			is(t, "At", s.At(), lengthOf(n))
			is(t, "Err", s.Err(), api.OK)
		}
	}
}

// none: Read tells no prefix, and that there is none.
func none(t *testing.T, what string, s *wire.Source) {
	t.Helper()
	p, ok := prefix.Read(s)
	is(t, what+": prefix", p, api.Prefix{})
	is(t, what, ok, false)
}

// P3.2: too few bytes, by one or by all; the source keeps its error.
func TestReadShort(t *testing.T) {
	for n := 1; n < 33; n++ {
		b := append([]byte{byte(n)}, 1, 2, 3, 4)
		for have := 1; have < lengthOf(n); have++ {
			s := wire.Read(b[:have])
			none(t, "Read of too few", s)
			is(t, "Err", s.Err(), api.ErrShort)
			none(t, "Read of too few, again", s)
		}
	}
	for _, b := range [][]byte{nil, {}} {
		s := wire.Read(b)
		none(t, "Read of none", s)
		is(t, "Err", s.Err(), api.ErrShort)
	}
}

// P3.2: a Len above 32, whether its bytes are there or not.
func TestReadLenAbove(t *testing.T) {
	for _, n := range []byte{33, 34, 40, 64, 128, 160, 255} {
		none(t, "Read of a Len above 32", wire.Read([]byte{n}))
		none(t, "Read of a Len above 32 with bytes", wire.Read(append([]byte{n}, make([]byte, 40)...)))
	}
}

// P3.2, R5: sources with an error, and ones that no call made.
func TestReadOfNoSource(t *testing.T) {
	s := wire.Read([]byte{8, 10, 8, 10})
	s.Bytes(-1)
	none(t, "Read behind an error", s)
	is(t, "Err", s.Err(), api.ErrArg)
	for _, s := range []*wire.Source{nil, new(wire.Source)} {
		none(t, "Read of an unmade source", s)
		is(t, "Err", s.Err(), api.ErrMade)
	}
}

// P3.2: Bytes of each, in the row's order, as often as they stand there.
func TestAll(t *testing.T) {
	list(t, "All of none", prefix.All(nil))
	list(t, "All of none", prefix.All([]api.Prefix{}))
	list(t, "All", prefix.All([]api.Prefix{pre(10, 1, 0, 0, 16), {}, pre(9, 9, 9, 9, 8), pre(10, 1, 0, 0, 16), pre(1, 2, 3, 4, 99)}),
		16, 10, 1, 0, 8, 9, 16, 10, 1, 32, 1, 2, 3, 4)
}

// P3.2: the prefixes in their order, as often as they stand there.
func TestParse(t *testing.T) {
	for _, x := range []struct {
		b    []byte
		want []api.Prefix
	}{
		{nil, nil},
		{[]byte{}, nil},
		{[]byte{0}, []api.Prefix{{}}},
		{[]byte{0, 0}, []api.Prefix{{}, {}}},
		{[]byte{16, 10, 1}, []api.Prefix{pre(10, 1, 0, 0, 16)}},
		{[]byte{16, 10, 1, 9, 10, 255, 8, 9, 16, 10, 1}, []api.Prefix{pre(10, 1, 0, 0, 16), pre(10, 128, 0, 0, 9), pre(9, 0, 0, 0, 8), pre(10, 1, 0, 0, 16)}},
	} {
		got, ok := prefix.Parse(x.b)
		list(t, "Parse's prefixes", got, x.want...)
		is(t, "Parse", ok, true)
	}
}

// P3.2: nothing, also of the prefixes ahead, if b is not made of prefixes.
func TestParseWrong(t *testing.T) {
	for _, b := range [][]byte{
		{1}, {32}, {33}, {255}, {16, 10}, {17, 10, 1}, {32, 1, 2, 3},
		{33, 1, 2, 3, 4}, {33, 1, 2, 3, 4, 5}, {0, 33}, {8, 10, 8}, {8, 10, 16, 1}, {8, 10, 40, 1, 2, 3, 4, 5}, {0, 0, 255},
	} {
		got, ok := prefix.Parse(b)
		list(t, "Parse's prefixes", got)
		is(t, "Parse", ok, false)
	}
	room := []byte{8, 10, 16, 1, 2}
	got, ok := prefix.Parse(room[:4])
	list(t, "Parse's prefixes, with room behind", got)
	is(t, "Parse, with room behind", ok, false)
}

// plainParse is the chapter's words with places in a list.
func plainParse(b []byte) ([]api.Prefix, bool) {
	var l []api.Prefix
	for len(b) > 0 {
		n := int(b[0])
		if n > 32 || len(b) < lengthOf(n) {
			return nil, false
		}
		var a uint32
		for i, x := range b[1:lengthOf(n)] {
			a |= uint32(x) << (24 - 8*i)
		}
		l = append(l, api.Prefix{Addr: a & plainMask(n), Len: n})
		b = b[lengthOf(n):]
	}
	return l, true
}

// P3.2: many bytes, right and wrong.
func TestParseAgainstPlain(t *testing.T) {
	r := rand.New(rand.NewSource(32))
	right := 0
	for range 5000 {
		b := make([]byte, r.Intn(20))
		for i := range b {
			b[i] = byte(r.Intn([]int{9, 34, 256}[r.Intn(3)]))
		}
		was := bytes.Clone(b)
		got, ok := prefix.Parse(b)
		want, wantOk := plainParse(b)
		list(t, "Parse's prefixes", got, want...)
		is(t, "Parse", ok, wantOk)
		list(t, "what was handed in", b, was...)
		if ok {
			right++
		}
	}
	if right < 500 || right > 4500 {
		t.Errorf("%d of 5000 are right: this tests little", right)
	}
}

// P3.4: Good prefixes lead back from bytes, one and many.
func TestBackFromBytes(t *testing.T) {
	r := rand.New(rand.NewSource(33))
	var row []api.Prefix
	for n := range 33 {
		for range 20 {
			p := api.Prefix{Addr: some(r) & plainMask(n), Len: n}
			row = append(row, p)
			s := wire.Read(prefix.Bytes(p))
			got, ok := prefix.Read(s)
			is(t, "Read of Bytes", got, p)
			is(t, "Read", ok, true)
			is(t, "End", s.End(), api.OK)
		}
	}
	r.Shuffle(len(row), func(i, j int) { row[i], row[j] = row[j], row[i] })
	got, ok := prefix.Parse(prefix.All(row))
	list(t, "Parse of All", got, row...)
	is(t, "Parse", ok, true)
}

// R3: answers are new memory, and what is handed in stays.
func TestBytesMemory(t *testing.T) {
	p := pre(10, 1, 0, 0, 16)
	row := []api.Prefix{p, pre(9, 9, 9, 9, 8)}
	was := slices.Clone(row)
	first, all := prefix.Bytes(p), prefix.All(row[:1])
	for _, b := range [][]byte{first, all} {
		b = b[:cap(b)]
		for i := range b {
			b[i] = 77
		}
	}
	list(t, "Bytes again", prefix.Bytes(p), 16, 10, 1)
	list(t, "All again", prefix.All(row[:1]), 16, 10, 1)
	list(t, "what was handed in", row, was...)

	b := []byte{16, 10, 1, 8}
	s := wire.Read(b)
	prefix.Read(s)
	list(t, "what a source has", s.Rest(), 8)
	list(t, "what was handed in", b, 16, 10, 1, 8)
}
