package wire_test

import (
	"bytes"
	"math"
	"testing"

	"fairway/wire"
)

// list holds an answer against what it should be; nil and empty lists are the same.
func list(t *testing.T, what string, got []byte, want ...byte) {
	t.Helper()
	if !bytes.Equal(got, want) {
		t.Errorf("%s: %v, want %v", what, got, want)
	}
}

// is holds any other answer against what it should be.
func is[T comparable](t *testing.T, what string, got, want T) {
	t.Helper()
	if got != want {
		t.Errorf("%s: %v, want %v", what, got, want)
	}
}

// P1.1: the greatest byte first, behind what is there.
func TestPut(t *testing.T) {
	list(t, "Put8", wire.Put8([]byte{7}, 200), 7, 200)
	list(t, "Put16", wire.Put16([]byte{7, 8}, 0x1234), 7, 8, 0x12, 0x34)
	list(t, "Put32", wire.Put32([]byte{7}, 0x12345678), 7, 0x12, 0x34, 0x56, 0x78)
	list(t, "Put16 of the example", wire.Put16(nil, 258), 1, 2)
	for _, none := range [][]byte{nil, {}} {
		list(t, "Put8 to none", wire.Put8(none, 0), 0)
		list(t, "Put16 to none", wire.Put16(none, 1), 0, 1)
		list(t, "Put32 to none", wire.Put32(none, 1), 0, 0, 0, 1)
	}
}

// P1.1: of a number that has more bytes, or is below 0, the lowest ones.
func TestPutLowestBytes(t *testing.T) {
	list(t, "Put8 of 256", wire.Put8(nil, 256), 0)
	list(t, "Put8 of 0x1ff", wire.Put8(nil, 0x1ff), 0xff)
	list(t, "Put8 of -2", wire.Put8(nil, -2), 0xfe)
	list(t, "Put8 of the least", wire.Put8(nil, math.MinInt), 0)
	list(t, "Put8 of the greatest", wire.Put8(nil, math.MaxInt), 0xff)
	list(t, "Put16 of 65536", wire.Put16(nil, 65536), 0, 0)
	list(t, "Put16 of 0x12345", wire.Put16(nil, 0x12345), 0x23, 0x45)
	list(t, "Put16 of -2", wire.Put16(nil, -2), 0xff, 0xfe)
	list(t, "Put16 of the least", wire.Put16(nil, math.MinInt), 0, 0)
	list(t, "Put16 of the greatest", wire.Put16(nil, math.MaxInt), 0xff, 0xff)
	list(t, "Put32 of the greatest", wire.Put32(nil, math.MaxUint32), 0xff, 0xff, 0xff, 0xff)
}

// P1.1, R3: the answer is new memory, and the room behind b's end stays as it is.
func TestPutIsNewMemory(t *testing.T) {
	puts := map[string]func(b []byte) []byte{
		"Put8":  func(b []byte) []byte { return wire.Put8(b, 1) },
		"Put16": func(b []byte) []byte { return wire.Put16(b, 1) },
		"Put32": func(b []byte) []byte { return wire.Put32(b, 1) },
	}
	for name, put := range puts {
		room := []byte{1, 2, 90, 91, 92, 93, 94, 95}
		first, second := put(room[:2]), put(room[:2])
		list(t, name+": what was handed in", room, 1, 2, 90, 91, 92, 93, 94, 95)
		want := bytes.Clone(second)
		for _, changed := range [][]byte{room, first[:cap(first)]} {
			for i := range changed {
				changed[i] = 77
			}
		}
		list(t, name+": another answer", second, want...)
		full := room[:cap(room)]
		third := put(full)
		third[0] = 1
		is(t, name+": full b", full[0], 77)
	}
}

// P1.1: numbers at their places, also the first and the last one.
func TestGet(t *testing.T) {
	b := []byte{0, 0, 1, 2, 3, 0xff, 0xfe, 0xfd, 0xfc}
	for at, want := range []int{0, 1, 258, 0x203, 0x3ff, 0xfffe, 0xfefd, 0xfdfc} {
		n, ok := wire.Get16(b, at)
		is(t, "Get16", n, want)
		is(t, "Get16's ok", ok, true)
	}
	for at, want := range []uint32{0x102, 0x10203, 0x10203ff, 0x203fffe, 0x3fffefd, 0xfffefdfc} {
		n, ok := wire.Get32(b, at)
		is(t, "Get32", n, want)
		is(t, "Get32's ok", ok, true)
	}
}

// P1.1: a place below 0, or with too few bytes, also where reckoning with it would wrap.
func TestGetNothing(t *testing.T) {
	b := []byte{1, 2, 3, 4, 5}
	for _, at := range []int{-1, -2, -4, math.MinInt, 4, 5, 6, math.MaxInt - 1, math.MaxInt} {
		n, ok := wire.Get16(b, at)
		is(t, "Get16", n, 0)
		is(t, "Get16's ok", ok, false)
	}
	for _, at := range []int{-1, -4, math.MinInt, 2, 4, 5, math.MaxInt - 3, math.MaxInt} {
		n, ok := wire.Get32(b, at)
		is(t, "Get32", n, 0)
		is(t, "Get32's ok", ok, false)
	}
	for _, few := range [][]byte{nil, {}, {1}, make([]byte, 1, 9)} {
		_, ok := wire.Get16(few, 0)
		is(t, "Get16 of too few", ok, false)
		_, ok = wire.Get32(few, 0)
		is(t, "Get32 of too few", ok, false)
	}
}

// P1.1, P1.3: what was put at some place is got from it.
func TestGetIsPut(t *testing.T) {
	for n := 0; n < 1<<16; n += 17 {
		got, ok := wire.Get16(wire.Put16([]byte{1, 2, 3}, n), 3)
		if got != n || !ok {
			t.Fatalf("%d was put, %d, %v got", n, got, ok)
		}
		big := uint32(n)<<16 | uint32(n)
		wide, ok := wire.Get32(wire.Put32([]byte{1}, big), 1)
		if wide != big || !ok {
			t.Fatalf("%d was put, %d, %v got", big, wide, ok)
		}
	}
}

// P1.3: what was put is read again, in order, and nothing is left.
func TestReadIsPut(t *testing.T) {
	numbers := []uint32{0, 1, 127, 128, 255, 256, 258, 32767, 32768, 65535, 65536, 1<<24 + 3, math.MaxInt32, 1 << 31, math.MaxUint32}
	var b []byte
	for _, n := range numbers {
		b = wire.Put32(wire.Put16(wire.Put8(b, int(n)), int(n)), n)
	}
	s := wire.Read(b)
	for _, n := range numbers {
		is(t, "U8", s.U8(), int(n&0xff))
		is(t, "U16", s.U16(), int(n&0xffff))
		is(t, "U32", s.U32(), n)
	}
	is(t, "Left", s.Left(), 0)
	is(t, "At", s.At(), len(b))
	is(t, "End", s.End(), 0)
}
