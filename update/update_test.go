package update_test

import (
	"bytes"
	"fmt"
	"math"
	"slices"
	"testing"

	"fairway/api"
	"fairway/attr"
	"fairway/prefix"
	"fairway/update"
)

// is holds an answer against what it should be.
func is[T comparable](t *testing.T, what string, got, want T) {
	t.Helper()
	if got != want {
		t.Errorf("%s: %v, want %v", what, got, want)
	}
}

// list holds a list against what it should be; nil and empty lists are the same.
func list[T comparable](t *testing.T, what string, got []T, want ...T) {
	t.Helper()
	if !slices.Equal(got, want) {
		t.Errorf("%s: %v, want %v", what, got, want)
	}
}

// alike holds an update against what it should be, part by part.
func alike(t *testing.T, what string, got, want update.Update) {
	t.Helper()
	list(t, what+": withdrawn", got.Withdrawn, want.Withdrawn...)
	list(t, what+": nlri", got.Nlri, want.Nlri...)
	list(t, what+": path", got.Attrs.Path, want.Attrs.Path...)
	got.Attrs.Path, want.Attrs.Path = nil, nil
	is(t, what+": attrs but path", fmt.Sprint(got.Attrs), fmt.Sprint(want.Attrs))
}

func join(l ...[]byte) []byte { return bytes.Join(l, nil) }

// pre is a prefix by the parts of its address's text.
func pre(a, b, c, d byte, n int) api.Prefix {
	return api.Prefix{Addr: uint32(a)<<24 | uint32(b)<<16 | uint32(c)<<8 | uint32(d), Len: n}
}

// row: so many prefixes of that Len, each alike.
func row(n, length int) []api.Prefix {
	return slices.Repeat([]api.Prefix{prefix.Canon(api.Prefix{Addr: 0xaaaaaaaa, Len: length})}, n)
}

var (
	ten   = pre(10, 0, 0, 0, 8)
	all   = pre(0, 0, 0, 0, 0)
	one   = pre(1, 2, 3, 4, 32)
	plain = attr.Attrs{NextHop: 10<<24 | 1}
)

// full has each part that there can be.
func full() update.Update {
	return update.Update{
		Withdrawn: []api.Prefix{ten, pre(192, 168, 1, 0, 24)},
		Attrs:     attr.Attrs{Origin: 2, Path: []int{7, 65001}, NextHop: 0xc0a80102, Med: 5, HasMed: true},
		Nlri:      []api.Prefix{pre(10, 1, 0, 0, 16), all, one},
	}
}

// change: full, with one part changed.
func change(how func(u *update.Update)) update.Update {
	u := full()
	how(&u)
	return u
}

// goods: updates that may be and are short enough.
func goods() []update.Update {
	return []update.Update{
		{}, full(),
		{Withdrawn: []api.Prefix{}, Attrs: attr.Attrs{Path: []int{}}, Nlri: []api.Prefix{}},
		{Withdrawn: []api.Prefix{ten}},
		{Withdrawn: []api.Prefix{ten}, Attrs: attr.Attrs{Path: []int{}}},
		{Withdrawn: []api.Prefix{one, one, all, ten, one}},
		{Attrs: plain, Nlri: []api.Prefix{ten}},
		{Attrs: plain, Nlri: []api.Prefix{one, ten, ten}},
		{Withdrawn: []api.Prefix{ten}, Attrs: plain, Nlri: []api.Prefix{ten}},
		{Withdrawn: row(4073, 0)},
		{Withdrawn: append(row(814, 32), row(1, 16)...)},
		{Attrs: plain, Nlri: append(row(811, 32), row(1, 24)...)},
	}
}

// bads: updates of which one part may not be.
func bads() []update.Update {
	var l []update.Update
	for _, p := range []api.Prefix{{Len: -1}, {Len: 33}, {Len: math.MinInt}, {Len: math.MaxInt}, {Addr: 1}, {Addr: 1, Len: 31}, pre(10, 0, 0, 1, 8), pre(10, 0, 0, 0, 6)} {
		for i := range 3 {
			l = append(l, change(func(u *update.Update) { u.Withdrawn = slices.Insert(u.Withdrawn, min(i, 2), p) }))
			l = append(l, change(func(u *update.Update) { u.Nlri = slices.Insert(u.Nlri, i+1, p) }))
		}
		l = append(l, update.Update{Withdrawn: []api.Prefix{p}}, update.Update{Attrs: plain, Nlri: []api.Prefix{p}})
	}
	for _, a := range []attr.Attrs{
		{}, {NextHop: 127 << 24}, {Origin: 3, NextHop: 1}, {Origin: -1, NextHop: 1}, {NextHop: 1, Med: 1},
		{NextHop: 1, Path: []int{0}}, {NextHop: 1, Path: []int{65536}}, {NextHop: 1, Path: make([]int, 17)}, {NextHop: 1, Med: -1, HasMed: true},
	} {
		l = append(l, change(func(u *update.Update) { u.Attrs = a }), update.Update{Attrs: a, Nlri: []api.Prefix{ten}})
	}
	for _, a := range []attr.Attrs{
		plain, full().Attrs, {Origin: 1}, {Origin: 3}, {Origin: math.MinInt}, {Path: []int{1}}, {Path: []int{0}}, {NextHop: 1}, {Med: 1}, {HasMed: true},
	} {
		l = append(l, update.Update{Attrs: a}, update.Update{Withdrawn: []api.Prefix{ten}, Attrs: a, Nlri: []api.Prefix{}})
	}
	return l
}

// P9.1: all prefixes, and Attrs with Nlri and without.
func TestGood(t *testing.T) {
	for _, u := range goods() {
		is(t, fmt.Sprintf("Good of %.200v", u), update.Good(u), true)
	}
	for _, u := range bads() {
		is(t, fmt.Sprintf("Good of %v", u), update.Good(u), false)
	}
	is(t, "Good of one that is too long", update.Good(update.Update{Withdrawn: row(100000, 32)}), true)
}

// P9.1: of what is not Good there are no bytes.
func TestNothingOfBad(t *testing.T) {
	for _, u := range bads() {
		list(t, fmt.Sprintf("Bytes of %v", u), update.Bytes(u))
		is(t, fmt.Sprintf("Size of %v", u), update.Size(u), 0)
	}
}

// P9.1: the bytes of each part, each with its count but the last.
func TestBytes(t *testing.T) {
	for _, x := range []struct {
		what string
		u    update.Update
		want []byte
	}{
		{"the example", update.Update{}, []byte{0, 0, 0, 0}},
		{"withdrawn alone", update.Update{Withdrawn: []api.Prefix{ten}}, []byte{0, 2, 8, 10, 0, 0}},
		{"two alike stay two, in their order", update.Update{Withdrawn: []api.Prefix{one, all, ten, one}},
			[]byte{0, 13, 32, 1, 2, 3, 4, 0, 8, 10, 32, 1, 2, 3, 4, 0, 0}},
		{"nlri alone", update.Update{Attrs: plain, Nlri: []api.Prefix{ten}},
			[]byte{0, 0, 0, 14, 64, 1, 1, 0, 64, 2, 0, 64, 3, 4, 10, 0, 0, 1, 8, 10}},
		{"two nlri alike", update.Update{Attrs: plain, Nlri: []api.Prefix{one, ten, ten}},
			[]byte{0, 0, 0, 14, 64, 1, 1, 0, 64, 2, 0, 64, 3, 4, 10, 0, 0, 1, 32, 1, 2, 3, 4, 8, 10, 8, 10}},
		{"full", full(), []byte{
			0, 6, 8, 10, 24, 192, 168, 1,
			0, 27, 64, 1, 1, 2, 64, 2, 6, 2, 2, 0, 7, 253, 233, 64, 3, 4, 192, 168, 1, 2, 128, 4, 4, 0, 0, 0, 5,
			16, 10, 1, 0, 32, 1, 2, 3, 4}},
	} {
		list(t, x.what, update.Bytes(x.u), x.want...)
		is(t, x.what+": Size", update.Size(x.u), len(x.want))
	}
	b := update.Bytes(update.Update{Withdrawn: row(300, 16)})
	list(t, "a count of two bytes", b[:6], 3, 132, 16, 170, 170, 16)
	is(t, "a count of two bytes: length", len(b), 904)
}

// P9.1: at most 4077 bytes; Size goes on beyond that, and beyond what a count of two bytes can tell.
func TestSize(t *testing.T) {
	both := func(gone, told []api.Prefix) update.Update {
		return update.Update{Withdrawn: gone, Attrs: plain, Nlri: told}
	}
	for _, x := range []struct {
		what string
		u    update.Update
		size int
	}{
		{"withdrawn", update.Update{Withdrawn: row(814, 32)}, 4074},
		{"withdrawn, just not too long", update.Update{Withdrawn: append(row(814, 32), row(1, 16)...)}, 4077},
		{"withdrawn, just too long", update.Update{Withdrawn: append(row(814, 32), row(1, 24)...)}, 4078},
		{"nothing but noughts", update.Update{Withdrawn: row(4073, 0)}, 4077},
		{"nothing but noughts, just too long", update.Update{Withdrawn: row(4074, 0)}, 4078},
		{"nlri, just not too long", both(nil, append(row(811, 32), row(1, 24)...)), 4077},
		{"nlri, just too long", both(nil, row(812, 32)), 4078},
		{"both, just not too long", both(row(400, 32), append(row(411, 25), row(4, 0)...)), 4077},
		{"both, just too long", both(row(400, 32), append(row(411, 25), row(5, 0)...)), 4078},
		{"a whole message", update.Update{Withdrawn: row(4092, 0)}, 4096},
		{"the greatest count", update.Update{Withdrawn: row(65535, 0)}, 65539},
		{"beyond the greatest count", update.Update{Withdrawn: row(65536, 0)}, 65540},
		{"beyond the greatest count, to what would be short", update.Update{Withdrawn: row(65537, 0)}, 65541},
		{"far too long", both(row(30000, 32), row(30000, 24)), 270018},
	} {
		is(t, x.what, update.Size(x.u), x.size)
		want := x.size
		if want > 4077 {
			want = 0
		}
		is(t, x.what+": bytes", len(update.Bytes(x.u)), want)
	}
	for _, u := range goods() {
		is(t, fmt.Sprintf("Size of %.200v", u), update.Size(u), len(update.Bytes(u)))
	}
}

// P9.1: two are alike if each part is; such that are not Good, too.
func TestSame(t *testing.T) {
	all := []update.Update{
		{}, {Withdrawn: []api.Prefix{ten}}, {Nlri: []api.Prefix{ten}}, {Attrs: plain}, {Attrs: attr.Attrs{HasMed: true}},
		{Attrs: attr.Attrs{Path: []int{1}}}, {Attrs: attr.Attrs{Path: []int{1, 2}}},
		{Withdrawn: []api.Prefix{ten, one}}, {Withdrawn: []api.Prefix{one, ten}}, {Withdrawn: []api.Prefix{ten, ten}},
		{Withdrawn: []api.Prefix{ten}, Nlri: []api.Prefix{one}}, {Withdrawn: []api.Prefix{one}, Nlri: []api.Prefix{ten}},
		{Withdrawn: []api.Prefix{{}}}, {Withdrawn: []api.Prefix{{Addr: 1}}}, {Withdrawn: []api.Prefix{{Len: 33}}}, {Withdrawn: []api.Prefix{{Len: -1}}},
		full(),
		change(func(u *update.Update) { u.Withdrawn[1].Len++ }),
		change(func(u *update.Update) { u.Withdrawn[0].Addr++ }),
		change(func(u *update.Update) { u.Withdrawn = u.Withdrawn[:1] }),
		change(func(u *update.Update) { u.Nlri[2].Len-- }),
		change(func(u *update.Update) { u.Nlri[0].Addr-- }),
		change(func(u *update.Update) { u.Nlri = u.Nlri[:2] }),
		change(func(u *update.Update) { slices.Reverse(u.Nlri) }),
		change(func(u *update.Update) { u.Attrs.Path[0]++ }),
		change(func(u *update.Update) { u.Attrs.Med++ }),
		change(func(u *update.Update) { u.Withdrawn, u.Nlri = u.Nlri, u.Withdrawn }),
	}
	for i, a := range all {
		for j, b := range all {
			b.Withdrawn, b.Nlri, b.Attrs.Path = slices.Clone(b.Withdrawn), slices.Clone(b.Nlri), slices.Clone(b.Attrs.Path)
			is(t, fmt.Sprintf("Same of %v and %v", a, b), update.Same(a, b), i == j)
		}
	}
	none := update.Update{Withdrawn: []api.Prefix{}, Attrs: attr.Attrs{Path: []int{}}, Nlri: []api.Prefix{}}
	is(t, "Same of none and empty ones", update.Same(update.Update{}, none), true)
	is(t, "Same of empty ones and none", update.Same(none, update.Update{}), true)
}

// P9.1: neither Withdrawn nor Nlri, whatever Attrs are.
func TestEmpty(t *testing.T) {
	for _, u := range []update.Update{{}, {Attrs: plain}, {Attrs: full().Attrs}, {Withdrawn: []api.Prefix{}, Nlri: []api.Prefix{}}, {Withdrawn: row(3, 8)[:0]}} {
		is(t, fmt.Sprintf("Empty of %v", u), update.Empty(u), true)
	}
	for _, u := range []update.Update{full(), {Withdrawn: []api.Prefix{ten}}, {Nlri: []api.Prefix{ten}}, {Withdrawn: []api.Prefix{{}}}, {Nlri: []api.Prefix{{Len: -1}}}} {
		is(t, fmt.Sprintf("Empty of %v", u), update.Empty(u), false)
	}
}

// R3: what is handed in is not changed, nor the room behind its end; what is answered is new memory.
func TestMemory(t *testing.T) {
	gone, told, path := []api.Prefix{ten, all, one}, []api.Prefix{one, one, ten}, []int{7, 8, 9}
	u := update.Update{Withdrawn: gone[:1:3], Attrs: attr.Attrs{Path: path[:2:3], NextHop: 10<<24 | 1}, Nlri: told[:1:3]}
	for range 2 {
		b := update.Bytes(u)
		list(t, "Bytes", b, 0, 2, 8, 10, 0, 20, 64, 1, 1, 0, 64, 2, 6, 2, 2, 0, 7, 0, 8, 64, 3, 4, 10, 0, 0, 1, 32, 1, 2, 3, 4)
		spoil(b)
		none := update.Bytes(update.Update{})
		list(t, "Bytes of an empty one", none, 0, 0, 0, 0)
		spoil(none)
	}
	update.Good(u)
	update.Size(u)
	update.Same(u, u)
	update.Empty(u)
	list(t, "withdrawn that were handed in", gone, ten, all, one)
	list(t, "nlri that were handed in", told, one, one, ten)
	list(t, "path that was handed in", path, 7, 8, 9)
}

// spoil writes into all that a list has, its spare room too.
func spoil(b []byte) {
	b = b[:cap(b)]
	for i := range b {
		b[i] = 0x77
	}
}
