package open_test

import (
	"bytes"
	"fmt"
	"math"
	"slices"
	"testing"

	"fairway/open"
)

// is holds an answer against what it should be.
func is[T comparable](t *testing.T, what string, got, want T) {
	t.Helper()
	if got != want {
		t.Errorf("%s: %v, want %v", what, got, want)
	}
}

// list holds bytes against what they should be; nil and empty lists are the same.
func list(t *testing.T, what string, got []byte, want ...byte) {
	t.Helper()
	if !bytes.Equal(got, want) {
		t.Errorf("%s: %v, want %v", what, got, want)
	}
}

// alike holds an OPEN against what it should be, part by part.
func alike(t *testing.T, what string, got, want open.Open) {
	t.Helper()
	is(t, what+": as", got.As, want.As)
	is(t, what+": hold", got.Hold, want.Hold)
	is(t, what+": id", got.Id, want.Id)
	if len(got.Caps) != len(want.Caps) {
		t.Errorf("%s: caps %v, want %v", what, got.Caps, want.Caps)
		return
	}
	for i, c := range got.Caps {
		is(t, fmt.Sprint(what, ": code of cap ", i), c.Code, want.Caps[i].Code)
		list(t, fmt.Sprint(what, ": value of cap ", i), c.Value, want.Caps[i].Value...)
	}
}

// spoil writes into all that a list has, its spare room too.
func spoil(b []byte) {
	b = b[:cap(b)]
	for i := range b {
		b[i] = 0x77
	}
}

func join(l ...[]byte) []byte { return bytes.Join(l, nil) }

// fill: so many bytes, each another one than its neighbours.
func fill(n int) []byte {
	b := make([]byte, n)
	for i := range b {
		b[i] = byte(i*7 + 1)
	}
	return b
}

// full has each part that there can be.
func full() open.Open {
	return open.Open{As: 65001, Hold: 258, Id: 0x0a000102, Caps: []open.Cap{
		{Code: 1, Value: []byte{0, 1, 0, 1}}, {Code: 2}, {Code: 65, Value: []byte{0, 0, 253, 233}},
	}}
}

// change: full, with one part changed.
func change(how func(o *open.Open)) open.Open {
	o := full()
	how(&o)
	return o
}

// with: full, with these caps.
func with(l ...open.Cap) open.Open { return change(func(o *open.Open) { o.Caps = l }) }

// values: caps with Values of so many bytes.
func values(sizes ...int) []open.Cap {
	var l []open.Cap
	for i, n := range sizes {
		l = append(l, open.Cap{Code: i, Value: fill(n)})
	}
	return l
}

// goods: what may be, at the ends of what each part may be.
func goods() []open.Open {
	l := []open.Open{full(), {As: 65001, Hold: 90, Id: 1}}
	for _, as := range []int{1, 2, 255, 256, 23456, 65534, 65535} {
		l = append(l, change(func(o *open.Open) { o.As = as }))
	}
	for _, hold := range []int{0, 3, 4, 255, 256, 65534, 65535} {
		l = append(l, change(func(o *open.Open) { o.Hold = hold }))
	}
	for _, id := range []uint32{1, 255, 256, 1 << 31, math.MaxUint32} {
		l = append(l, change(func(o *open.Open) { o.Id = id }))
	}
	for _, code := range []int{0, 1, 127, 128, 254, 255} {
		l = append(l, with(open.Cap{Code: code, Value: []byte{9}}))
	}
	for _, sizes := range [][]int{
		{}, {0}, {1}, {99}, {100}, {100, 96}, {96, 100}, {98, 98}, {100, 94, 0}, {0, 100, 94}, {100, 95}, make([]int, 99), make([]int, 100),
	} {
		l = append(l, with(values(sizes...)...))
	}
	return append(l, with(open.Cap{Code: 7, Value: []byte{1}}, open.Cap{Code: 7, Value: []byte{1}}), with(open.Cap{Value: []byte{}}))
}

// bads: what of which one part may not be.
func bads() []open.Open {
	l := []open.Open{{}, {As: 65001, Hold: 90}, {Hold: 90, Id: 1}}
	for _, as := range []int{0, -1, 65536, 65536 + 7, -65535, math.MinInt, math.MaxInt} {
		l = append(l, change(func(o *open.Open) { o.As = as }))
	}
	for _, hold := range []int{1, 2, -1, -3, 65536, 65536 + 90, math.MinInt, math.MaxInt} {
		l = append(l, change(func(o *open.Open) { o.Hold = hold }))
	}
	l = append(l, change(func(o *open.Open) { o.Id = 0 }))
	for _, code := range []int{-1, 256, 257, -256, math.MinInt, math.MaxInt} {
		l = append(l, with(open.Cap{Code: code}), with(open.Cap{Code: 1}, open.Cap{Code: code}, open.Cap{Code: 2}))
	}
	for _, sizes := range [][]int{
		{101}, {0, 101}, {101, 0}, {255}, {256}, {257}, {65536}, {100, 97}, {97, 100}, {100, 95, 0}, {100, 100}, {99, 99}, make([]int, 101), make([]int, 128), make([]int, 229),
	} {
		l = append(l, with(values(sizes...)...))
	}
	return l
}

// P8.1: each part, at its ends and beyond them.
func TestGood(t *testing.T) {
	for _, o := range goods() {
		is(t, fmt.Sprintf("Good of %+v", o), open.Good(o), true)
	}
	for _, o := range bads() {
		is(t, fmt.Sprintf("Good of %+v", o), open.Good(o), false)
	}
}

// P8.1: a Value has at most 100 bytes, all caps with their heads at most 200, whatever the sizes are.
func TestGoodSizes(t *testing.T) {
	for n := range 120 {
		is(t, fmt.Sprint("Good of a value of ", n), open.Good(with(values(n)...)), n <= 100)
		for m := range 120 {
			want := n <= 100 && m <= 100 && n+m+4 <= 200
			is(t, fmt.Sprint("Good of values of ", n, " and ", m), open.Good(with(values(n, m)...)), want)
		}
	}
}

// P8.1: the bytes of each part.
func TestBytes(t *testing.T) {
	list(t, "the example", open.Bytes(open.Open{As: 65001, Hold: 90, Id: 1}), 4, 253, 233, 0, 90, 0, 0, 0, 1, 0)
	list(t, "an empty list of caps", open.Bytes(open.Open{As: 65001, Hold: 90, Id: 1, Caps: []open.Cap{}}), 4, 253, 233, 0, 90, 0, 0, 0, 1, 0)
	list(t, "full", open.Bytes(full()),
		4, 253, 233, 1, 2, 10, 0, 1, 2, 16, 2, 14, 1, 4, 0, 1, 0, 1, 2, 0, 65, 4, 0, 0, 253, 233)
	list(t, "a cap without a value", open.Bytes(open.Open{As: 1, Id: math.MaxUint32, Caps: []open.Cap{{}}}),
		4, 0, 1, 0, 0, 255, 255, 255, 255, 4, 2, 2, 0, 0)
	list(t, "the greatest numbers", open.Bytes(open.Open{As: 65535, Hold: 65535, Id: 0xfedcba98, Caps: []open.Cap{{Code: 255, Value: []byte{255}}}}),
		4, 255, 255, 255, 255, 0xfe, 0xdc, 0xba, 0x98, 5, 2, 3, 255, 1, 255)
	list(t, "the longest caps", open.Bytes(open.Open{As: 1, Hold: 3, Id: 1, Caps: values(100, 96)}),
		join([]byte{4, 0, 1, 0, 3, 0, 0, 0, 1, 202, 2, 200, 0, 100}, fill(100), []byte{1, 96}, fill(96))...)
}

// P8.1: caps stay in their order, those of one Code too.
func TestBytesOrder(t *testing.T) {
	o := with(open.Cap{Code: 9, Value: []byte{3}}, open.Cap{Code: 2}, open.Cap{Code: 9, Value: []byte{1}})
	list(t, "the caps", open.Bytes(o)[9:], 10, 2, 8, 9, 1, 3, 2, 0, 9, 1, 1)
}

// P8.1: of what is not Good there are no bytes.
func TestNothingOfBad(t *testing.T) {
	for _, o := range bads() {
		list(t, fmt.Sprintf("Bytes of %+v", o), open.Bytes(o))
	}
}

// P8.1: two are alike if each part is; such that are not Good, too.
func TestSame(t *testing.T) {
	all := []open.Open{
		{}, {As: 1}, {As: -1}, {As: 65537}, {Hold: 1}, {Hold: math.MaxInt}, {Id: 1}, {Id: math.MaxUint32}, {As: 1, Hold: 1}, {As: 1, Id: 1},
		{Caps: []open.Cap{{}}}, {Caps: []open.Cap{{}, {}}}, {Caps: []open.Cap{{Code: 1}}}, {Caps: []open.Cap{{Code: 257}}},
		{Caps: []open.Cap{{Value: []byte{0}}}}, {Caps: []open.Cap{{Value: []byte{1}}}}, {Caps: []open.Cap{{Value: []byte{0, 0}}}},
		{Caps: []open.Cap{{Code: 1}, {Code: 2}}}, {Caps: []open.Cap{{Code: 2}, {Code: 1}}}, {Caps: []open.Cap{{Code: 1}, {Code: 2}, {Code: 2}}},
		full(),
		change(func(o *open.Open) { o.As++ }),
		change(func(o *open.Open) { o.Hold++ }),
		change(func(o *open.Open) { o.Id++ }),
		change(func(o *open.Open) { o.Caps = nil }),
		change(func(o *open.Open) { o.Caps = o.Caps[:2] }),
		change(func(o *open.Open) { o.Caps[2].Code++ }),
		change(func(o *open.Open) { o.Caps[2].Value[3]++ }),
		change(func(o *open.Open) { o.Caps[2].Value = o.Caps[2].Value[:3] }),
		change(func(o *open.Open) { slices.Reverse(o.Caps) }),
	}
	for i, a := range all {
		for j, b := range all {
			b.Caps = slices.Clone(b.Caps)
			for k, c := range b.Caps {
				b.Caps[k].Value = bytes.Clone(c.Value)
			}
			is(t, fmt.Sprintf("Same of %+v and %+v", a, b), open.Same(a, b), i == j)
		}
	}
}

// R3: nil and empty lists are the same.
func TestSameOfEmpty(t *testing.T) {
	none, empty := open.Open{}, open.Open{Caps: []open.Cap{}}
	is(t, "Same of no caps and empty ones", open.Same(none, empty), true)
	is(t, "Same of empty caps and none", open.Same(empty, none), true)
	none, empty = open.Open{Caps: []open.Cap{{Code: 2}}}, open.Open{Caps: []open.Cap{{Code: 2, Value: []byte{}}}}
	is(t, "Same of no value and an empty one", open.Same(none, empty), true)
	is(t, "Same of an empty value and none", open.Same(empty, none), true)
}

// P8.1: a cap of that Code, wherever it stands, and whatever is Good.
func TestHas(t *testing.T) {
	for _, x := range []struct {
		o    open.Open
		code int
		want bool
	}{
		{open.Open{}, 0, false},
		{open.Open{As: 2, Hold: 2, Id: 2}, 2, false},
		{open.Open{Caps: []open.Cap{}}, 0, false},
		{open.Open{Caps: []open.Cap{{}}}, 0, true},
		{open.Open{Caps: []open.Cap{{}}}, 1, false},
		{open.Open{Caps: []open.Cap{{Code: 1, Value: []byte{2}}}}, 2, false},
		{open.Open{Caps: []open.Cap{{Code: 2}}}, 258, false},
		{open.Open{Caps: []open.Cap{{Code: 2}}}, -254, false},
		{open.Open{Caps: []open.Cap{{Code: 258}}}, 2, false},
		{open.Open{Caps: []open.Cap{{Code: 258}}}, 258, true},
		{open.Open{Caps: []open.Cap{{Code: math.MinInt}, {Code: math.MaxInt}}}, math.MaxInt, true},
		{open.Open{Caps: []open.Cap{{Code: math.MinInt}, {Code: math.MaxInt}}}, math.MinInt, true},
		{open.Open{Caps: []open.Cap{{Code: -1}}}, 0, false},
		{open.Open{Caps: []open.Cap{{Code: 5}, {Code: 5}}}, 5, true},
	} {
		is(t, fmt.Sprint("Has of ", x.o, " and ", x.code), open.Has(x.o, x.code), x.want)
	}
	for code := -1; code < 257; code++ {
		is(t, fmt.Sprint("Has of full and ", code), open.Has(full(), code), code == 1 || code == 2 || code == 65)
	}
}

// P8.3: the lesser of both; 0, if one is.
func TestHold(t *testing.T) {
	for _, x := range []struct{ a, b, want int }{
		{0, 0, 0}, {0, 3, 0}, {0, 65535, 0}, {0, 1, 0}, {0, math.MaxInt, 0},
		{3, 3, 3}, {3, 4, 3}, {90, 180, 90}, {90, 90, 90}, {65534, 65535, 65534}, {1, 2, 1},
		{-1, 0, 0}, {math.MinInt, 0, 0}, {-1, 1, -1}, {-1, -2, -2}, {math.MinInt, math.MaxInt, math.MinInt}, {math.MaxInt, math.MaxInt, math.MaxInt},
	} {
		is(t, fmt.Sprint("Hold of ", x.a, " and ", x.b), open.Hold(x.a, x.b), x.want)
		is(t, fmt.Sprint("Hold of ", x.b, " and ", x.a), open.Hold(x.b, x.a), x.want)
	}
}

// R3: what is handed in is not changed, nor the room behind its end; what is answered is new memory.
func TestMemory(t *testing.T) {
	room := []byte{5, 6, 7, 8}
	rows := []open.Cap{{Code: 3, Value: room[:2:4]}, {Code: 4, Value: room[1:2:4]}, {Code: 99, Value: room[3:4]}}
	o := open.Open{As: 1, Hold: 3, Id: 1, Caps: rows[:2:3]}
	for range 2 {
		b := open.Bytes(o)
		list(t, "Bytes", b, 4, 0, 1, 0, 3, 0, 0, 0, 1, 9, 2, 7, 3, 2, 5, 6, 4, 1, 6)
		spoil(b)
		none := open.Bytes(open.Open{As: 1, Id: 1})
		list(t, "Bytes without caps", none, 4, 0, 1, 0, 0, 0, 0, 0, 1, 0)
		spoil(none)
	}
	open.Good(o)
	open.Same(o, o)
	open.Has(o, 4)
	list(t, "what was handed in", room, 5, 6, 7, 8)
	want := []open.Cap{{Code: 3, Value: []byte{5, 6}}, {Code: 4, Value: []byte{6}}, {Code: 99, Value: []byte{8}}}
	alike(t, "what was handed in", open.Open{Caps: rows}, open.Open{Caps: want})
}
