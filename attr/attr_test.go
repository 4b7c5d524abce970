package attr_test

import (
	"bytes"
	"fmt"
	"math"
	"slices"
	"testing"

	"fairway/attr"
)

// is holds an answer against what it should be.
func is[T comparable](t *testing.T, what string, got, want T) {
	t.Helper()
	if got != want {
		t.Errorf("%s: %v, want %v", what, got, want)
	}
}

// list holds bytes against what they should be; nil and empty lists are the same.
func list(t *testing.T, what string, got []byte, want ...byte) {
	t.Helper()
	if !bytes.Equal(got, want) {
		t.Errorf("%s: %v, want %v", what, got, want)
	}
}

// alike holds attributes against what they should be, part by part.
func alike(t *testing.T, what string, got, want attr.Attrs) {
	t.Helper()
	is(t, what+": origin", got.Origin, want.Origin)
	if !slices.Equal(got.Path, want.Path) {
		t.Errorf("%s: path %v, want %v", what, got.Path, want.Path)
	}
	is(t, what+": next hop", got.NextHop, want.NextHop)
	is(t, what+": med", got.Med, want.Med)
	is(t, what+": has med", got.HasMed, want.HasMed)
}

const hop = 10<<24 | 1

// full has each part that there can be.
func full() attr.Attrs {
	return attr.Attrs{Origin: 2, Path: []int{7, 65001}, NextHop: 0xc0a80102, Med: 0x01020304, HasMed: true}
}

// longPath: so many numbers, each another one.
func longPath(n int) []int {
	var path []int
	for i := range n {
		path = append(path, 300+i)
	}
	return path
}

// change: full, with one part changed.
func change(how func(a *attr.Attrs)) attr.Attrs {
	a := full()
	how(&a)
	return a
}

// goods: attributes that may be, at the ends of what each part may be.
func goods() []attr.Attrs {
	l := []attr.Attrs{full(), {NextHop: hop}}
	for origin := range 3 {
		l = append(l, change(func(a *attr.Attrs) { a.Origin = origin }))
	}
	for _, path := range [][]int{nil, {}, {1}, {65535}, {1, 65535, 1}, longPath(15), longPath(16)} {
		l = append(l, change(func(a *attr.Attrs) { a.Path = path }))
	}
	for _, to := range hops {
		l = append(l, change(func(a *attr.Attrs) { a.NextHop = to }))
	}
	for _, med := range []int{0, 1, 255, 1 << 31, math.MaxUint32} {
		l = append(l, change(func(a *attr.Attrs) { a.Med = med }))
	}
	return append(l, change(func(a *attr.Attrs) { a.Med, a.HasMed = 0, false }))
}

// bads: attributes of which one part may not be.
func bads() []attr.Attrs {
	var l []attr.Attrs
	for _, origin := range []int{-1, 3, 256, math.MinInt, math.MaxInt} {
		l = append(l, change(func(a *attr.Attrs) { a.Origin = origin }))
	}
	for _, path := range [][]int{{0}, {-1}, {65536}, {math.MinInt}, {math.MaxInt}, {1, 2, 0}, {0, 1}, longPath(17), longPath(256), longPath(273)} {
		l = append(l, change(func(a *attr.Attrs) { a.Path = path }))
	}
	for _, to := range noHops {
		l = append(l, change(func(a *attr.Attrs) { a.NextHop = to }))
	}
	for _, med := range []int{-1, math.MaxUint32 + 1, math.MinInt, math.MaxInt} {
		l = append(l, change(func(a *attr.Attrs) { a.Med = med }))
	}
	for _, med := range []int{1, -1, math.MaxUint32, math.MaxInt} {
		l = append(l, change(func(a *attr.Attrs) { a.Med, a.HasMed = med, false }))
	}
	return append(l, attr.Attrs{})
}

// hops and noHops: on both sides of each end that there is.
var (
	hops = []uint32{
		1, 255, hop, 0x7effffff, 0x80000000, 0xbfffffff, 0xc0000000, 0xdfffffff, 0x00ffffff, 0x0000007f,
	}
	noHops = []uint32{
		0, 0x7f000000, 0x7f000001, 0x7fffffff, 0xe0000000, 0xe0000001, 0xefffffff, 0xf0000000, 0xfffffffe, 0xffffffff,
	}
)

// P7.2: where packets can be sent.
func TestHop(t *testing.T) {
	for _, to := range hops {
		is(t, fmt.Sprintf("Hop of %#x", to), attr.Hop(to), true)
	}
	for _, to := range noHops {
		is(t, fmt.Sprintf("Hop of %#x", to), attr.Hop(to), false)
	}
	for first := range 256 {
		want := first != 127 && first < 224
		is(t, fmt.Sprint("Hop of ", first, ".1.2.3"), attr.Hop(uint32(first)<<24|0x10203), want)
	}
}

// P7.2: each part, at its ends and beyond them.
func TestGood(t *testing.T) {
	for _, a := range goods() {
		is(t, fmt.Sprintf("Good of %+v", a), attr.Good(a), true)
	}
	for _, a := range bads() {
		is(t, fmt.Sprintf("Good of %+v", a), attr.Good(a), false)
	}
}

// P7.2: the bytes of each part.
func TestBytes(t *testing.T) {
	list(t, "the example", attr.Bytes(attr.Attrs{NextHop: hop}),
		64, 1, 1, 0, 64, 2, 0, 64, 3, 4, 10, 0, 0, 1)
	list(t, "full", attr.Bytes(full()),
		64, 1, 1, 2, 64, 2, 6, 2, 2, 0, 7, 0xfd, 0xe9, 64, 3, 4, 192, 168, 1, 2, 128, 4, 4, 1, 2, 3, 4)
	list(t, "a med of 0", attr.Bytes(attr.Attrs{Origin: 1, Path: []int{}, NextHop: hop, HasMed: true}),
		64, 1, 1, 1, 64, 2, 0, 64, 3, 4, 10, 0, 0, 1, 128, 4, 4, 0, 0, 0, 0)
	list(t, "the greatest med", attr.Bytes(attr.Attrs{NextHop: hop, Med: math.MaxUint32, HasMed: true})[14:],
		128, 4, 4, 255, 255, 255, 255)

	b := attr.Bytes(attr.Attrs{Path: longPath(16), NextHop: hop})
	list(t, "the longest path: its begin", b[4:13], 64, 2, 34, 2, 16, 1, 44, 1, 45)
	is(t, "the longest path: length", len(b), 14+34)
}

// P7.2: of what is not Good there are neither bytes nor a text.
func TestNothingOfBad(t *testing.T) {
	for _, a := range bads() {
		list(t, fmt.Sprintf("Bytes of %+v", a), attr.Bytes(a))
		is(t, fmt.Sprintf("Text of %+v", a), attr.Text(a), "")
	}
}

// P7.2: all of it in words.
func TestText(t *testing.T) {
	for _, x := range []struct {
		a    attr.Attrs
		want string
	}{
		{attr.Attrs{NextHop: hop}, "igp () 10.0.0.1"},
		{attr.Attrs{Origin: 1, Path: []int{}, NextHop: hop}, "egp () 10.0.0.1"},
		{attr.Attrs{Path: []int{7}, NextHop: hop, Med: 5, HasMed: true}, "igp (7) 10.0.0.1 med 5"},
		{attr.Attrs{Path: []int{65535, 1, 1}, NextHop: hop, HasMed: true}, "igp (65535 1 1) 10.0.0.1 med 0"},
		{full(), "incomplete (7 65001) 192.168.1.2 med 16909060"},
		{attr.Attrs{NextHop: hop, Med: math.MaxUint32, HasMed: true}, "igp () 10.0.0.1 med 4294967295"},
	} {
		is(t, "Text", attr.Text(x.a), x.want)
	}
}

// P7.2: two are alike if each part is; such that are not Good, too.
func TestSame(t *testing.T) {
	all := []attr.Attrs{
		{}, {Origin: 1}, {Origin: -1}, {Path: []int{1}}, {Path: []int{1, 2}}, {Path: []int{2, 1}}, {Path: []int{0}},
		{NextHop: 1}, {NextHop: math.MaxUint32}, {Med: 1}, {Med: math.MaxInt}, {HasMed: true}, {Med: 1, HasMed: true},
		full(),
		change(func(a *attr.Attrs) { a.Origin = 1 }),
		change(func(a *attr.Attrs) { a.Path = []int{7} }),
		change(func(a *attr.Attrs) { a.Path[1] = 7 }),
		change(func(a *attr.Attrs) { a.NextHop++ }),
		change(func(a *attr.Attrs) { a.Med++ }),
		change(func(a *attr.Attrs) { a.HasMed = false }),
	}
	for i, a := range all {
		for j, b := range all {
			b.Path = slices.Clone(b.Path)
			is(t, fmt.Sprintf("Same of %+v and %+v", a, b), attr.Same(a, b), i == j)
		}
	}
	is(t, "Same of no path and an empty one", attr.Same(attr.Attrs{}, attr.Attrs{Path: []int{}}), true)
	is(t, "Same of an empty path and none", attr.Same(attr.Attrs{Path: []int{}}, attr.Attrs{}), true)
}

// R3: a path is not changed, nor the room behind its end; what is answered is new memory.
func TestAttrsMemory(t *testing.T) {
	room := []int{7, 8, 9}
	a := attr.Attrs{Path: room[:2:3], NextHop: hop}
	want := bytes.Clone(attr.Bytes(a))
	for range 2 {
		b := attr.Bytes(a)
		list(t, "Bytes", b, want...)
		spoil(b)
	}
	attr.Good(a)
	attr.Text(a)
	attr.Same(a, a)
	if !slices.Equal(room, []int{7, 8, 9}) {
		t.Errorf("what was handed in: %v", room)
	}
}

// spoil writes into all that a list has, its spare room too.
func spoil(b []byte) {
	b = b[:cap(b)]
	for i := range b {
		b[i] = 0x77
	}
}
