package prefix_test

import (
	"cmp"
	"math"
	"math/rand"
	"slices"
	"testing"

	"fairway/api"
	"fairway/prefix"
)

// is holds an answer against what it should be.
func is[T comparable](t *testing.T, what string, got, want T) {
	t.Helper()
	if got != want {
		t.Errorf("%s: %v, want %v", what, got, want)
	}
}

// list holds a list against what it should be; nil and empty lists are the same.
func list[T comparable](t *testing.T, what string, got []T, want ...T) {
	t.Helper()
	if !slices.Equal(got, want) {
		t.Errorf("%s: %v, want %v", what, got, want)
	}
}

// pre is a prefix by the parts of its address's text.
func pre(a, b, c, d byte, n int) api.Prefix {
	return api.Prefix{Addr: addr(a, b, c, d), Len: n}
}

func addr(a, b, c, d byte) uint32 {
	return uint32(a)<<24 | uint32(b)<<16 | uint32(c)<<8 | uint32(d)
}

// addrs are addresses at which something turns.
var addrs = []uint32{0, 1, 2, 1 << 7, 1 << 8, 1<<16 - 1, 1 << 16, 1 << 24, 10<<24 | 1<<16, 0x55555555, 0xaaaaaaaa, math.MaxInt32, 1 << 31, 1<<31 + 1, math.MaxUint32 - 1, math.MaxUint32}

// lens are numbers that may be a Len, and numbers that may not, with the nearest that may.
var lens = func() map[int]int {
	m := map[int]int{-1: 0, -2: 0, -8: 0, -32: 0, -33: 0, -255: 0, -256: 0, math.MinInt32: 0, math.MinInt: 0, math.MinInt + 1: 0,
		33: 32, 34: 32, 40: 32, 63: 32, 64: 32, 65: 32, 255: 32, 256: 32, 257: 32, math.MaxInt32: 32, 1 << 32: 32, 1<<32 + 8: 32, math.MaxInt - 1: 32, math.MaxInt: 32}
	for n := range 33 {
		m[n] = n
	}
	return m
}()

// plainMask sets the first n bits one by one.
func plainMask(n int) uint32 {
	var m uint32
	for i := range 32 {
		if i < n {
			m |= 1 << (31 - i)
		}
	}
	return m
}

// plainHolds holds the first bits against each other one by one.
func plainHolds(a, b uint32, n int) bool {
	for i := range 32 {
		if i < n && a>>(31-i)&1 != b>>(31-i)&1 {
			return false
		}
	}
	return true
}

// some makes an address of which many bits are alike.
func some(r *rand.Rand) uint32 {
	switch r.Intn(3) {
	case 0:
		return addrs[r.Intn(len(addrs))]
	case 1:
		return r.Uint32() &^ (math.MaxUint32 >> r.Intn(33))
	}
	return r.Uint32()
}

// P3.1: the first bits are 1, and those alone; below 0 none, above 32 all.
func TestMask(t *testing.T) {
	is(t, "Mask of 0", prefix.Mask(0), 0)
	is(t, "Mask of 1", prefix.Mask(1), 1<<31)
	is(t, "Mask of 8", prefix.Mask(8), 0xff000000)
	is(t, "Mask of 17", prefix.Mask(17), 0xffff8000)
	is(t, "Mask of 31", prefix.Mask(31), 0xfffffffe)
	is(t, "Mask of 32", prefix.Mask(32), math.MaxUint32)
	is(t, "Mask of 33", prefix.Mask(33), math.MaxUint32)
	is(t, "Mask of -1", prefix.Mask(-1), 0)
	for n, near := range lens {
		is(t, "Mask", prefix.Mask(n), plainMask(near))
	}
}

// P3.1: a Len that may be, and nothing behind it.
func TestGood(t *testing.T) {
	for _, x := range []struct {
		p    api.Prefix
		want bool
	}{
		{api.Prefix{}, true},
		{pre(10, 0, 0, 0, 8), true},
		{pre(10, 0, 0, 0, 7), true},
		{pre(10, 0, 0, 0, 6), false},
		{pre(10, 1, 0, 0, 16), true},
		{pre(10, 1, 0, 1, 16), false},
		{pre(10, 1, 0, 1, 31), false},
		{pre(10, 1, 0, 1, 32), true},
		{pre(10, 1, 0, 1, 33), false},
		{pre(0, 0, 0, 0, 33), false},
		{pre(0, 0, 0, 0, -1), false},
		{pre(0, 0, 0, 0, 32), true},
		{pre(0, 0, 0, 1, 0), false},
		{pre(128, 0, 0, 0, 0), false},
		{pre(128, 0, 0, 0, 1), true},
	} {
		is(t, "Good of "+prefix.Text(x.p), prefix.Good(x.p), x.want)
	}
	for n, near := range lens {
		for _, a := range addrs {
			is(t, "Good", prefix.Good(api.Prefix{Addr: a, Len: n}), n == near && a&^plainMask(near) == 0)
		}
	}
}

// P3.1: the nearest Len, and nothing behind it; what is Good stays.
func TestCanon(t *testing.T) {
	is(t, "Canon", prefix.Canon(pre(10, 1, 2, 3, 16)), pre(10, 1, 0, 0, 16))
	is(t, "Canon of a part of a byte", prefix.Canon(pre(10, 255, 2, 3, 11)), pre(10, 224, 0, 0, 11))
	is(t, "Canon of below 0", prefix.Canon(pre(255, 1, 2, 3, -1)), pre(0, 0, 0, 0, 0))
	is(t, "Canon of above 32", prefix.Canon(pre(10, 1, 2, 3, 33)), pre(10, 1, 2, 3, 32))
	for n, near := range lens {
		for _, a := range addrs {
			got := prefix.Canon(api.Prefix{Addr: a, Len: n})
			is(t, "Canon", got, api.Prefix{Addr: a & plainMask(near), Len: near})
			is(t, "Canon of Canon", prefix.Canon(got), got)
			is(t, "Good of Canon", prefix.Good(got), true)
		}
	}
}

// P3.1: the first bits are held against each other, and no others.
func TestHolds(t *testing.T) {
	for _, x := range []struct {
		p    api.Prefix
		addr uint32
		want bool
	}{
		{pre(10, 1, 0, 0, 16), addr(10, 1, 0, 5), true},
		{pre(10, 1, 0, 0, 16), addr(10, 1, 255, 255), true},
		{pre(10, 1, 0, 0, 16), addr(10, 2, 0, 0), false},
		{pre(10, 1, 0, 0, 16), addr(10, 0, 255, 255), false},
		{pre(10, 1, 0, 0, 15), addr(10, 0, 255, 255), true},
		{pre(10, 1, 9, 9, 16), addr(10, 1, 0, 0), true}, // behind Len p's bits count not
		{pre(10, 1, 9, 9, 0), addr(200, 0, 0, 0), true},
		{pre(10, 1, 9, 9, -1), addr(200, 0, 0, 0), true},
		{pre(10, 1, 9, 9, 32), addr(10, 1, 9, 9), true},
		{pre(10, 1, 9, 9, 32), addr(10, 1, 9, 8), false},
		{pre(10, 1, 9, 9, 33), addr(10, 1, 9, 9), true},
		{pre(10, 1, 9, 9, 33), addr(10, 1, 9, 8), false},
	} {
		is(t, "Holds of "+prefix.Text(x.p)+" "+prefix.Addr(x.addr), prefix.Holds(x.p, x.addr), x.want)
	}
	for n, near := range lens {
		for _, a := range addrs {
			for _, b := range addrs {
				is(t, "Holds", prefix.Holds(api.Prefix{Addr: a, Len: n}, b), plainHolds(a, b, near))
			}
		}
	}
}

// P3.1: q is as long, or longer, and begins with p.
func TestWithin(t *testing.T) {
	for _, x := range []struct {
		p, q api.Prefix
		want bool
	}{
		{pre(10, 0, 0, 0, 8), pre(10, 1, 0, 0, 16), true},
		{pre(10, 1, 0, 0, 16), pre(10, 0, 0, 0, 8), false},
		{pre(10, 0, 0, 0, 16), pre(10, 0, 0, 0, 8), false}, // p holds q's Addr, but q is shorter
		{pre(10, 0, 0, 0, 8), pre(10, 0, 0, 0, 8), true},
		{pre(10, 0, 0, 0, 8), pre(10, 0, 0, 0, 9), true},
		{pre(10, 0, 0, 0, 8), pre(10, 0, 0, 0, 7), false},
		{pre(10, 0, 0, 0, 8), pre(11, 1, 0, 0, 16), false},
		{pre(10, 0, 0, 0, 8), pre(11, 0, 0, 0, 8), false},
		{pre(10, 9, 9, 9, 8), pre(10, 1, 7, 7, 16), true},
		{pre(0, 0, 0, 0, 0), pre(0, 0, 0, 0, 0), true},
		{pre(0, 0, 0, 0, 0), pre(255, 0, 0, 0, 8), true},
		{pre(0, 0, 0, 0, 1), pre(0, 0, 0, 0, 0), false},
		{pre(1, 2, 3, 4, 32), pre(1, 2, 3, 4, 33), true}, // both are of 32
		{pre(1, 2, 3, 4, 40), pre(1, 2, 3, 4, 32), true},
		{pre(1, 2, 3, 4, 40), pre(1, 2, 3, 5, 41), false},
		{pre(1, 2, 3, 4, 0), pre(9, 2, 3, 4, -1), true}, // both are of 0
		{pre(1, 2, 3, 4, -1), pre(9, 2, 3, 4, -2), true},
		{pre(0, 0, 0, 0, 1), pre(0, 0, 0, 0, -1), false},
	} {
		is(t, "Within of "+prefix.Text(x.p)+" "+prefix.Text(x.q), prefix.Within(x.p, x.q), x.want)
	}
	for n, near := range lens {
		for m, nearM := range lens {
			for _, a := range addrs {
				p, q := api.Prefix{Addr: a, Len: n}, api.Prefix{Addr: a ^ 1<<20, Len: m}
				want := nearM >= near && plainHolds(p.Addr, q.Addr&plainMask(nearM), near)
				is(t, "Within", prefix.Within(p, q), want)
			}
		}
	}
}

// P3.1: by Addr, then by Len, as they stand.
func TestCmp(t *testing.T) {
	row := []api.Prefix{
		pre(0, 0, 0, 0, math.MinInt), pre(0, 0, 0, 0, -1), {}, pre(0, 0, 0, 0, 1), pre(0, 0, 0, 0, math.MaxInt),
		pre(0, 0, 0, 1, -9), pre(0, 0, 0, 1, 32),
		pre(10, 0, 0, 0, 8), pre(10, 0, 0, 0, 9), pre(10, 0, 0, 1, 8), pre(10, 1, 0, 0, 0),
		pre(127, 255, 255, 255, 32), pre(128, 0, 0, 0, 1), pre(255, 255, 255, 255, 0), pre(255, 255, 255, 255, 32),
	}
	for i, p := range row {
		for j, q := range row {
			is(t, "Cmp", prefix.Cmp(p, q), cmp.Compare(i, j))
		}
	}
}

// P3.1: in Cmp's order, what is alike once.
func TestSort(t *testing.T) {
	for _, none := range [][]api.Prefix{nil, {}, make([]api.Prefix, 0, 3)} {
		list(t, "Sort of none", prefix.Sort(none))
	}
	list(t, "Sort of one", prefix.Sort([]api.Prefix{pre(10, 0, 0, 0, 8)}), pre(10, 0, 0, 0, 8))
	list(t, "Sort", prefix.Sort([]api.Prefix{
		pre(200, 0, 0, 0, 8), pre(10, 0, 0, 0, 16), pre(10, 0, 0, 0, 8), pre(200, 0, 0, 0, 8), {}, pre(10, 0, 0, 0, 16), pre(200, 0, 0, 0, 8),
	}), api.Prefix{}, pre(10, 0, 0, 0, 8), pre(10, 0, 0, 0, 16), pre(200, 0, 0, 0, 8))
	// Those that are alike by Canon alone are two, and stay as they are.
	list(t, "Sort of some that are not Good", prefix.Sort([]api.Prefix{
		pre(10, 0, 0, 1, 8), pre(10, 0, 0, 0, 40), pre(10, 0, 0, 0, 32), pre(10, 0, 0, 0, 8),
	}), pre(10, 0, 0, 0, 8), pre(10, 0, 0, 0, 32), pre(10, 0, 0, 0, 40), pre(10, 0, 0, 1, 8))
}

// P3.1: many rows, by putting one in behind the other.
func TestSortAgainstPlain(t *testing.T) {
	r := rand.New(rand.NewSource(31))
	for n := range 200 {
		var row, want []api.Prefix
		for range n {
			p := api.Prefix{Addr: uint32(r.Intn(1+n/2)) << 27, Len: r.Intn(4)}
			row = append(row, p)
			at := 0
			for at < len(want) && (want[at].Addr < p.Addr || want[at].Addr == p.Addr && want[at].Len < p.Len) {
				at++
			}
			if at == len(want) || want[at] != p {
				want = slices.Insert(want, at, p)
			}
		}
		was := slices.Clone(row)
		list(t, "Sort", prefix.Sort(row), want...)
		list(t, "what was handed in", row, was...)
	}
}

// R3: Sort's answer is new memory, its room too, also of a row that is sorted.
func TestSortMemory(t *testing.T) {
	room := []api.Prefix{pre(1, 0, 0, 0, 8), pre(2, 0, 0, 0, 8), pre(3, 0, 0, 0, 8), pre(0, 0, 0, 0, 9)}
	was := slices.Clone(room)
	got := prefix.Sort(room[:3])
	list(t, "Sort", got, was[:3]...)
	got = append(got, api.Prefix{Len: 7})
	got = got[:cap(got)]
	for i := range got {
		got[i] = api.Prefix{Len: 9}
	}
	list(t, "what was handed in", room, was...)
}
