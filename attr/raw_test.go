package attr_test

import (
	"bytes"
	"fmt"
	"math"
	"math/rand"
	"testing"

	"fairway/api"
	"fairway/attr"
)

// raws holds attributes against what they should be.
func raws(t *testing.T, what string, got []attr.Raw, want ...attr.Raw) {
	t.Helper()
	if len(got) != len(want) {
		t.Errorf("%s: %v, want %v", what, got, want)
		return
	}
	for i, r := range got {
		is(t, fmt.Sprint(what, ": flags of ", i), r.Flags, want[i].Flags)
		is(t, fmt.Sprint(what, ": type of ", i), r.Type, want[i].Type)
		list(t, fmt.Sprint(what, ": value of ", i), r.Value, want[i].Value...)
	}
}

// faulty holds a fault against what it should be; Code 0: none.
func faulty(t *testing.T, what string, got api.Fault, code, sub int, data ...byte) {
	t.Helper()
	is(t, what+": code", got.Code, code)
	is(t, what+": sub", got.Sub, sub)
	list(t, what+": data", got.Data, data...)
}

// splits: Split of b tells these attributes, and Join of them b.
func splits(t *testing.T, what string, b []byte, want ...attr.Raw) {
	t.Helper()
	was := bytes.Clone(b)
	l, f := attr.Split(b)
	faulty(t, what+": Split", f, 0, 0)
	raws(t, what+": Split", l, want...)
	list(t, what+": what was handed in", b, was...)
	list(t, what+": Join", attr.Join(l), b...)
}

// splitFails: Split of b tells that it lacks its end, and nothing beside it; so does Parse.
func splitFails(t *testing.T, what string, b []byte) {
	t.Helper()
	l, f := attr.Split(b)
	faulty(t, what+": Split", f, 3, 1)
	raws(t, what+": Split", l)
	a, f := attr.Parse(b)
	faulty(t, what+": Parse", f, 3, 1)
	alike(t, what+": Parse", a, attr.Attrs{})
}

func fill(n int) []byte { return bytes.Repeat([]byte{0x5a}, n) }

// P7.1: each part at its place; a length of one byte, and of two.
func TestSplitAndJoin(t *testing.T) {
	splits(t, "nothing", nil)
	splits(t, "empty", []byte{})
	splits(t, "no value", []byte{64, 2, 0}, attr.Raw{Flags: 64, Type: 2})
	splits(t, "no value, two bytes of length", []byte{80, 2, 0, 0}, attr.Raw{Flags: 80, Type: 2})
	splits(t, "noughts", make([]byte, 6), attr.Raw{}, attr.Raw{})
	splits(t, "three",
		[]byte{255, 254, 0, 3, 1, 2, 3, 0, 9, 1, 200, 0xef, 255, 2, 7, 6},
		attr.Raw{Flags: 255, Type: 254, Value: []byte{1, 2, 3}},
		attr.Raw{Flags: 0, Type: 9, Value: []byte{200}},
		attr.Raw{Flags: 0xef, Type: 255, Value: []byte{7, 6}})
	splits(t, "255 bytes", append([]byte{128, 7, 255}, fill(255)...), attr.Raw{Flags: 128, Type: 7, Value: fill(255)})
	splits(t, "256 bytes", append([]byte{144, 7, 1, 0}, fill(256)...), attr.Raw{Flags: 144, Type: 7, Value: fill(256)})
	splits(t, "65535 bytes", append([]byte{16, 7, 255, 255}, fill(65535)...), attr.Raw{Flags: 16, Type: 7, Value: fill(65535)})
	splits(t, "two of one type", []byte{64, 1, 0, 64, 1, 0}, attr.Raw{Flags: 64, Type: 1}, attr.Raw{Flags: 64, Type: 1})
}

// P7.1: all 256 numbers of Flags and of Type; of Flags 16 alone says how long the length is.
func TestSplitAndJoinBytes(t *testing.T) {
	for n := range 256 {
		head := []byte{byte(n), byte(255 - n)}
		b := append(bytes.Clone(head), 2, 0, 1)
		if n/16%2 == 1 {
			b = append(bytes.Clone(head), 0, 2, 0, 1)
		}
		splits(t, fmt.Sprint("flags ", n), b, attr.Raw{Flags: n, Type: 255 - n, Value: []byte{0, 1}})
	}
}

// P7.1: of Flags and Type their lowest eight bits count.
func TestJoinLowestBits(t *testing.T) {
	for _, x := range []struct {
		flags, kind int
		want        []byte
	}{
		{256 + 64, 512 + 1, []byte{64, 1, 1, 9}},
		{-1, -2, []byte{255, 254, 0, 1, 9}},
		{-17, -256, []byte{239, 0, 1, 9}},
		{256 * 16, 256, []byte{0, 0, 1, 9}},
		{math.MaxInt, math.MinInt, []byte{255, 0, 0, 1, 9}},
		{math.MinInt, math.MaxInt, []byte{0, 255, 1, 9}},
		{math.MinInt + 16, 3, []byte{16, 3, 0, 1, 9}},
	} {
		got := attr.Join([]attr.Raw{{Flags: x.flags, Type: x.kind, Value: []byte{9}}})
		list(t, fmt.Sprint("Join of ", x.flags, " ", x.kind), got, x.want...)
	}
}

// P7.1: of a Value that is too long for its length there is its front; what stands behind it is whole.
func TestJoinTooLong(t *testing.T) {
	value := make([]byte, 70000)
	rand.New(rand.NewSource(1)).Read(value)
	last := attr.Raw{Flags: 64, Type: 1, Value: []byte{2}}
	for _, n := range []int{0, 1, 254, 255, 256, 257, 511, 512, 65534, 65535, 65536, 65537, 70000} {
		short := attr.Join([]attr.Raw{{Flags: 239, Type: 5, Value: value[:n]}, last})
		m := min(n, 255)
		list(t, fmt.Sprint("Join of ", n), short, bytes.Join([][]byte{{239, 5, byte(m)}, value[:m], {64, 1, 1, 2}}, nil)...)

		long := attr.Join([]attr.Raw{{Flags: 16, Type: 5, Value: value[:n]}, last})
		m = min(n, 65535)
		list(t, fmt.Sprint("Join of ", n, ", extended"), long, bytes.Join([][]byte{{16, 5, byte(m / 256), byte(m % 256)}, value[:m], {64, 1, 1, 2}}, nil)...)
	}
	list(t, "Join of nothing", attr.Join(nil))
	list(t, "Join of an empty list", attr.Join([]attr.Raw{}))
}

// P7.1: bytes that end within an attribute, wherever that is.
func TestSplitShort(t *testing.T) {
	b := append(attr.Bytes(full()), 0x90, 9, 1, 0)
	b = append(b, fill(256)...)
	ends := map[int]int{0: 0, 4: 1, 13: 2, 20: 3, 27: 4, len(b): 5}
	for n := range len(b) + 1 {
		what := fmt.Sprint("the first ", n)
		count, whole := ends[n]
		if !whole {
			splitFails(t, what, b[:n])
			continue
		}
		l, f := attr.Split(b[:n])
		faulty(t, what, f, 0, 0)
		is(t, what+": how many", len(l), count)
	}
	splitFails(t, "a length that is too great by far", []byte{80, 1, 255, 255, 0})
	splitFails(t, "one byte of a length of two", []byte{80, 1, 0})
	splitFails(t, "the room behind the end counts not", append(bytes.Clone(b), 1, 2, 3)[:len(b)-1])
}

// R3: no list of an answer shares memory with another one, or with what was handed in.
func TestRawMemory(t *testing.T) {
	b := []byte{64, 1, 2, 3, 4, 64, 2, 2, 5, 6, 80, 3, 0, 1, 7, 90, 91}
	whole := b[:15]
	l, _ := attr.Split(whole)
	want := []attr.Raw{{Flags: 64, Type: 1, Value: []byte{3, 4}}, {Flags: 64, Type: 2, Value: []byte{5, 6}}, {Flags: 80, Type: 3, Value: []byte{7}}}
	joined := attr.Join(l)
	list(t, "Join", joined, whole...)
	spoil(joined)
	raws(t, "behind Join", l, want...)
	for i := range l {
		spoil(l[i].Value)
		l[i].Value = want[i].Value
		raws(t, "behind a Value that was spoilt", l, want...)
	}
	list(t, "what was handed in", b, 64, 1, 2, 3, 4, 64, 2, 2, 5, 6, 80, 3, 0, 1, 7, 90, 91)

	l, _ = attr.Split(whole)
	clear(b)
	raws(t, "behind bytes that were changed", l, want...)

	value := append(fill(300), 1)
	attr.Join([]attr.Raw{{Flags: 64, Type: 1, Value: value[:2]}, {Flags: 64, Type: 1, Value: value}})
	list(t, "a value that was handed in", value, append(fill(300), 1)...)
}

// P7.1: rows of any attributes lead back, and so do any bytes that are some.
func TestSplitAndJoinLeadBack(t *testing.T) {
	r := rand.New(rand.NewSource(2))
	for range 2000 {
		var l []attr.Raw
		for range r.Intn(6) {
			value := make([]byte, r.Intn(9))
			r.Read(value)
			l = append(l, attr.Raw{Flags: r.Intn(256), Type: r.Intn(256), Value: value})
		}
		splits(t, "a row", attr.Join(l), l...)

		b := make([]byte, r.Intn(12))
		for i := range b {
			b[i] = byte(r.Intn(6) * r.Intn(6))
		}
		if got, f := attr.Split(b); f.Code == 0 {
			list(t, "Join of Split", attr.Join(got), b...)
		}
	}
}
