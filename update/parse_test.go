package update_test

import (
	"bytes"
	"fmt"
	"math/rand"
	"testing"

	"fairway/api"
	"fairway/attr"
	"fairway/prefix"
	"fairway/update"
)

// Attributes that may be, in bytes, and what they say.
var (
	origin  = []byte{64, 1, 1, 0}
	path    = []byte{64, 2, 4, 2, 1, 0, 7}
	nextHop = []byte{64, 3, 4, 10, 0, 0, 1}
	said    = join(origin, path, nextHop)
	saying  = attr.Attrs{Path: []int{7}, NextHop: 10<<24 | 1}
)

// count: two bytes of how many bytes follow, and these.
func count(b []byte) []byte { return join([]byte{byte(len(b) >> 8), byte(len(b))}, b) }

// body: of which an update is made.
func body(gone, attrs, told []byte) []byte { return join(count(gone), count(attrs), told) }

// parses: Parse of b tells this, and keeps b.
func parses(t *testing.T, what string, b []byte, want update.Update) {
	t.Helper()
	was := bytes.Clone(b)
	u, f := update.Parse(b)
	faulty(t, what, f, 0, 0)
	alike(t, what, u, want)
	list(t, what+": what was handed in", b, was...)
}

// fails: Parse of b tells this fault, and nothing beside it.
func fails(t *testing.T, what string, b []byte, sub int, data ...byte) {
	t.Helper()
	was := bytes.Clone(b)
	u, f := update.Parse(b)
	faulty(t, what, f, 3, sub, data...)
	alike(t, what, u, update.Update{})
	list(t, what+": what was handed in", b, was...)
}

// faulty holds a fault against what it should be; Code 0: none.
func faulty(t *testing.T, what string, got api.Fault, code, sub int, data ...byte) {
	t.Helper()
	is(t, what+": code", got.Code, code)
	is(t, what+": sub", got.Sub, sub)
	list(t, what+": data", got.Data, data...)
}

// P9.2: each part at its place.
func TestParse(t *testing.T) {
	parses(t, "the example", []byte{0, 0, 0, 0}, update.Update{})
	parses(t, "withdrawn alone", []byte{0, 2, 8, 10, 0, 0}, update.Update{Withdrawn: []api.Prefix{ten}})
	parses(t, "nlri alone", body(nil, said, []byte{8, 10}), update.Update{Attrs: saying, Nlri: []api.Prefix{ten}})
	parses(t, "both", body([]byte{0, 32, 1, 2, 3, 4}, said, []byte{8, 10, 0, 8, 10}),
		update.Update{Withdrawn: []api.Prefix{all, one}, Attrs: saying, Nlri: []api.Prefix{ten, all, ten}})
	parses(t, "a prefix in both", body([]byte{8, 10}, said, []byte{8, 10}),
		update.Update{Withdrawn: []api.Prefix{ten}, Attrs: saying, Nlri: []api.Prefix{ten}})
	parses(t, "bits behind Len", body([]byte{4, 255, 8, 10}, said, []byte{31, 1, 2, 3, 5, 0}),
		update.Update{Withdrawn: []api.Prefix{pre(240, 0, 0, 0, 4), ten}, Attrs: saying, Nlri: []api.Prefix{pre(1, 2, 3, 4, 31), all}})
	parses(t, "attributes in another order, with others", body(nil, join([]byte{192, 8, 2, 1, 2}, nextHop, path, origin), []byte{0}),
		update.Update{Attrs: saying, Nlri: []api.Prefix{all}})
	parses(t, "the room behind the end counts not", body([]byte{8, 10}, nil, []byte{8, 10})[:6], update.Update{Withdrawn: []api.Prefix{ten}})
}

// P9.2: without Nlri Attrs are zero, whatever attributes say, and none need be there.
func TestParseWithoutNlri(t *testing.T) {
	for _, attrs := range [][]byte{
		nil, said, origin, path, nextHop, join(origin, nextHop), {128, 4, 4, 0, 0, 0, 5}, {192, 8, 1, 2}, join(said, []byte{128, 4, 4, 0, 0, 0, 5}),
	} {
		what := fmt.Sprint("attributes ", attrs)
		parses(t, what, body(nil, attrs, nil), update.Update{})
		parses(t, what+", withdrawn", body([]byte{8, 10, 0}, attrs, nil), update.Update{Withdrawn: []api.Prefix{ten, all}})
	}
}

// P9.2: what comes may be longer than what is sent.
func TestParseLong(t *testing.T) {
	gone, told := row(13107, 32), row(20000, 24)
	parses(t, "the greatest count", body(prefix.All(gone), said, prefix.All(told)), update.Update{Withdrawn: gone, Attrs: saying, Nlri: told})
	parses(t, "just more than is sent", body(nil, said, make([]byte, 4056)), update.Update{Attrs: saying, Nlri: row(4056, 0)})
	long := join(said, []byte{144, 99, 255, 237}, make([]byte, 65535-4-18))
	long[20], long[21] = byte((len(long)-22)>>8), byte(len(long)-22)
	parses(t, "the longest attributes", body(nil, long, []byte{0}), update.Update{Attrs: saying, Nlri: []api.Prefix{all}})
}

// P9.2, Sub 1: a part that lacks its end, wherever.
func TestParseShort(t *testing.T) {
	whole := update.Bytes(full())
	fails(t, "nil", nil, 1)
	for n := range 37 {
		fails(t, fmt.Sprint("the first ", n), whole[:n], 1)
	}
	for i, n := range []int{37, 40, 41} { // ahead of a prefix
		u := full()
		if u.Nlri = u.Nlri[:i]; i == 0 {
			u.Attrs = attr.Attrs{}
		}
		parses(t, fmt.Sprint("the first ", n), whole[:n], u)
	}
	for _, n := range []int{38, 39, 42, 43, 44, 45} { // within a prefix
		fails(t, fmt.Sprint("the first ", n), whole[:n], 10)
	}
	for _, b := range [][]byte{
		{0}, {255}, {0, 1}, {0, 1, 0}, {0, 0}, {0, 0, 0}, {0, 0, 0, 1}, {0, 0, 1, 0}, {0, 0, 255, 255}, {255, 255, 0, 0},
		{0, 2, 0, 0}, {0, 2, 0, 0, 0}, {0, 2, 8, 10, 0, 1}, {1, 0, 8, 10, 0, 0}, {0, 0, 0, 3, 64, 1},
	} {
		fails(t, fmt.Sprint(b), b, 1)
	}
}

// P9.2, Sub 10: Withdrawn, or Nlri, that are no prefixes.
func TestParsePrefixes(t *testing.T) {
	for _, wrong := range [][]byte{{33}, {33, 1, 2, 3, 4, 5}, {255}, {1}, {8}, {9, 10}, {32, 1, 2, 3}, {8, 10, 8}, {0, 0, 17, 1, 2}, {0, 34, 0}} {
		for _, attrs := range [][]byte{nil, said} {
			for _, well := range [][]byte{nil, {8, 10}} {
				what := fmt.Sprint(wrong, " with ", well, " and ", attrs)
				fails(t, "withdrawn "+what, body(wrong, attrs, well), 10)
				fails(t, "nlri "+what, body(well, attrs, wrong), 10)
			}
		}
		fails(t, fmt.Sprint("both ", wrong), body(wrong, said, wrong), 10)
	}
	for n := range 256 {
		own := join([]byte{byte(n)}, make([]byte, (n+7)/8))
		for _, nlri := range []bool{false, true} {
			b, want := body(own, said, nil), update.Update{Withdrawn: []api.Prefix{{Len: n}}}
			if nlri {
				b, want = body(nil, said, own), update.Update{Attrs: saying, Nlri: []api.Prefix{{Len: n}}}
			}
			if what := fmt.Sprint("a Len of ", n, ", nlri ", nlri); n <= 32 {
				parses(t, what, b, want)
			} else {
				fails(t, what, b, 10)
			}
		}
	}
}

// P9.2: attributes that may not be, with Nlri and without, as attr tells it.
func TestParseAttrs(t *testing.T) {
	for _, x := range []struct {
		attrs []byte
		sub   int
		data  []byte
	}{
		{[]byte{64}, 1, nil},
		{[]byte{64, 1, 1}, 1, nil},
		{join(said, []byte{64, 1}), 1, nil},
		{join(said, origin), 1, nil},
		{join(origin, origin), 1, nil},
		{join(said, []byte{64, 9, 1, 7}), 2, []byte{64, 9, 1, 7}},
		{[]byte{0, 9, 0}, 2, []byte{0, 9, 0}},
		{join(origin, []byte{192, 2, 0}), 4, []byte{192, 2, 0}},
		{join(said, []byte{64, 4, 4, 0, 0, 0, 5}), 4, []byte{64, 4, 4, 0, 0, 0, 5}},
		{[]byte{64, 1, 0}, 5, []byte{64, 1, 0}},
		{join(origin, []byte{64, 3, 3, 1, 2, 3}), 5, []byte{64, 3, 3, 1, 2, 3}},
		{[]byte{64, 1, 1, 9}, 6, []byte{64, 1, 1, 9}},
		{[]byte{80, 1, 0, 1, 3}, 6, []byte{80, 1, 0, 1, 3}},
		{[]byte{64, 3, 4, 127, 0, 0, 1}, 8, []byte{64, 3, 4, 127, 0, 0, 1}},
		{join(origin, path, []byte{64, 3, 4, 0, 0, 0, 0}), 8, []byte{64, 3, 4, 0, 0, 0, 0}},
		{join(origin, []byte{64, 2, 1, 2}), 11, nil},
		{[]byte{64, 2, 4, 2, 1, 0, 0}, 11, nil},
	} {
		what := fmt.Sprint("attributes ", x.attrs)
		fails(t, what+", with nlri", body(nil, x.attrs, []byte{8, 10}), x.sub, x.data...)
		fails(t, what+", with both", body([]byte{0}, x.attrs, []byte{8, 10}), x.sub, x.data...)
		fails(t, what+", without nlri", body(nil, x.attrs, nil), x.sub, x.data...)
		fails(t, what+", with withdrawn", body([]byte{8, 10}, x.attrs, nil), x.sub, x.data...)
	}
	for _, x := range []struct {
		attrs []byte
		data  byte
	}{
		{nil, 1}, {[]byte{192, 8, 0}, 1}, {origin, 2}, {join(origin, path), 3}, {join(path, nextHop), 1}, {join(nextHop, origin), 2}, {nextHop, 1},
	} {
		fails(t, fmt.Sprint("attributes ", x.attrs, ", one missing"), body(nil, x.attrs, []byte{8, 10}), 3, x.data)
		fails(t, fmt.Sprint("attributes ", x.attrs, ", one missing, with both"), body([]byte{8, 10}, x.attrs, []byte{0}), 3, x.data)
	}
}

// P9.2: of several faults the one that is named first.
func TestParseOrder(t *testing.T) {
	wrong := []byte{33}
	fails(t, "attributes that lack their end ahead of withdrawn", []byte{0, 1, 33, 0, 1}, 1)
	fails(t, "attributes without a count ahead of withdrawn", []byte{0, 1, 33, 0}, 1)
	fails(t, "no attributes at all ahead of withdrawn", []byte{0, 1, 33}, 1)
	fails(t, "withdrawn ahead of attributes", body(wrong, []byte{64, 1, 1, 9}, []byte{8, 10}), 10)
	fails(t, "withdrawn ahead of what is missing", body(wrong, nil, []byte{8, 10}), 10)
	fails(t, "withdrawn ahead of attributes, without nlri", body(wrong, []byte{64, 1, 1, 9}, nil), 10)
	fails(t, "nlri ahead of attributes", body(nil, []byte{64, 1, 1, 9}, wrong), 10)
	fails(t, "nlri ahead of what is missing", body(nil, nil, wrong), 10)
	fails(t, "nlri that begin well ahead of attributes", body(nil, []byte{64}, []byte{8, 10, 8}), 10)
	fails(t, "attributes ahead of what is missing", body(nil, []byte{64, 1, 1, 9}, []byte{8, 10}), 6, 64, 1, 1, 9)
}

// P9.3: Parse of Bytes leads back.
func TestParseOfBytes(t *testing.T) {
	for _, u := range goods() {
		parses(t, fmt.Sprintf("%.200v", u), update.Bytes(u), u)
	}
	r := rand.New(rand.NewSource(1))
	for range 4000 {
		u := update.Update{Withdrawn: anyPrefixes(r), Nlri: anyPrefixes(r)}
		if len(u.Nlri) > 0 {
			u.Attrs = attr.Attrs{Origin: r.Intn(3), Path: r.Perm(20)[:r.Intn(8)], NextHop: 1 + r.Uint32()>>2, HasMed: r.Intn(2) == 0}
		}
		if u.Attrs.HasMed {
			u.Attrs.Med = int(r.Uint32())
		}
		b := update.Bytes(u)
		is(t, "bytes of what is Good", len(b) > 0, update.Good(u))
		is(t, "Size", update.Size(u), len(b))
		if !update.Good(u) {
			continue
		}
		parses(t, "any", b, u)
		got, _ := update.Parse(b)
		is(t, "Same", update.Same(got, u), true)
	}
}

// anyPrefixes: some that are Good, or none.
func anyPrefixes(r *rand.Rand) []api.Prefix {
	var l []api.Prefix
	for range r.Intn(5) {
		l = append(l, prefix.Canon(api.Prefix{Addr: r.Uint32(), Len: r.Intn(33)}))
	}
	return l
}

// R3: what is answered shares nothing with what was handed in, nor one list with another.
func TestParseMemory(t *testing.T) {
	whole := append(update.Bytes(full()), 8, 10)
	b := whole[:len(whole)-2]
	was := bytes.Clone(whole)
	u, _ := update.Parse(b)
	clear(u.Withdrawn[:cap(u.Withdrawn)])
	alike(t, "behind withdrawn that were changed", u, change(func(u *update.Update) { clear(u.Withdrawn) }))
	clear(u.Nlri[:cap(u.Nlri)])
	clear(u.Attrs.Path[:cap(u.Attrs.Path)])
	list(t, "what was handed in", whole, was...)

	u, _ = update.Parse(b)
	clear(whole)
	alike(t, "behind bytes that were changed", u, full())

	wrong := body(nil, []byte{64, 1, 1, 9}, []byte{8, 10})
	for range 2 {
		_, f := update.Parse(wrong)
		list(t, "data", f.Data, 64, 1, 1, 9)
		spoil(f.Data)
		list(t, "what was handed in", wrong, 0, 0, 0, 4, 64, 1, 1, 9, 8, 10)
		_, f = update.Parse([]byte{0, 0, 0, 0, 8, 10})
		list(t, "data of what is missing", f.Data, 1)
		spoil(f.Data)
	}
}

// byHand is Parse again, by what the chapter says, straight from the bytes; attributes are attr's.
func byHand(b []byte) (update.Update, api.Fault) {
	bad := func(sub int) (update.Update, api.Fault) { return update.Update{}, api.Fault{Code: 3, Sub: sub} }
	if len(b) < 2 {
		return bad(1)
	}
	gone := int(b[0])*256 + int(b[1])
	if len(b) < 2+gone+2 {
		return bad(1)
	}
	attrs := int(b[2+gone])*256 + int(b[3+gone])
	if len(b) < 4+gone+attrs {
		return bad(1)
	}
	var u update.Update
	for i, part := range [][]byte{b[2 : 2+gone], b[4+gone+attrs:]} {
		for len(part) > 0 {
			n := int(part[0])
			if n > 32 || len(part) < 1+(n+7)/8 {
				return bad(10)
			}
			var addr uint32
			for j := range n {
				addr |= uint32(part[1+j/8]>>(7-j%8)&1) << (31 - j)
			}
			if p := (api.Prefix{Addr: addr, Len: n}); i == 0 {
				u.Withdrawn = append(u.Withdrawn, p)
			} else {
				u.Nlri = append(u.Nlri, p)
			}
			part = part[1+(n+7)/8:]
		}
	}
	if len(u.Nlri) == 0 && attrs == 0 {
		return u, api.Fault{}
	}
	a, f := attr.Parse(b[4+gone : 4+gone+attrs])
	switch {
	case f.Code != 0 && (f.Sub != 3 || len(u.Nlri) > 0):
		return update.Update{}, f
	case len(u.Nlri) > 0:
		u.Attrs = a
	}
	return u, api.Fault{}
}

// anyOf: a body most of which may be, and some bytes changed.
func anyOf(r *rand.Rand) []byte {
	parts := [][]byte{origin, path, nextHop, {128, 4, 4, 0, 0, 0, 5}, {192, 8, 1, 2}, {80, 1, 0, 1, 2}, {64, 3, 4, 224, 0, 0, 1}, {64, 1, 1, 3}}
	var attrs []byte
	for _, i := range r.Perm(len(parts) - 3*r.Intn(2))[:r.Intn(6)] {
		attrs = append(attrs, parts[i]...)
	}
	if r.Intn(2) == 0 {
		attrs = said
	}
	b := body(prefix.All(anyPrefixes(r)), attrs, prefix.All(anyPrefixes(r)))
	for range r.Intn(3) {
		i := r.Intn(len(b))
		if r.Intn(2) == 0 {
			b[i] = []byte{0, 1, 2, 8, 32, 33, 255}[r.Intn(7)]
		} else {
			b[i] ^= 1 << r.Intn(8)
		}
	}
	if r.Intn(16) == 0 {
		b = b[:r.Intn(len(b)+1)]
	}
	return b
}

// P9.2: any bytes, against what is reckoned by hand.
func TestParseAgainstByHand(t *testing.T) {
	r := rand.New(rand.NewSource(2))
	met := map[int]int{}
	for range 60000 {
		b := anyOf(r)
		want, f := byHand(b)
		met[f.Sub]++
		if what := fmt.Sprint(b); f.Code == 0 {
			parses(t, what, b, want)
		} else {
			fails(t, what, b, f.Sub, f.Data...)
		}
		if t.Failed() {
			return
		}
	}
	for _, sub := range []int{0, 1, 2, 3, 4, 5, 6, 8, 10, 11} {
		if met[sub] < 20 {
			t.Errorf("sub %d was met %d times only: %v", sub, met[sub], met)
		}
	}
}
