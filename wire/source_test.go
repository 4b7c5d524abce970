package wire_test

import (
	"bytes"
	"math"
	"math/rand"
	"reflect"
	"testing"

	"fairway/api"
	"fairway/wire"
)

// stands holds what a source tells of itself against what it should.
func stands(t *testing.T, what string, s *wire.Source, left, at int, err, end api.Errno) {
	t.Helper()
	if s.Left() != left || s.At() != at || s.Err() != err || s.End() != end {
		t.Errorf("%s: left %d, at %d, %v, end %v, want left %d, at %d, %v, end %v",
			what, s.Left(), s.At(), s.Err(), s.End(), left, at, err, end)
	}
}

// zeros: every call that takes something answers its zero value.
func zeros(t *testing.T, what string, s *wire.Source) {
	t.Helper()
	is(t, what+": U8", s.U8(), 0)
	is(t, what+": U16", s.U16(), 0)
	is(t, what+": U32", s.U32(), 0)
	for _, n := range []int{math.MinInt, -1, 0, 1, math.MaxInt} {
		list(t, what+": Bytes", s.Bytes(n))
	}
	list(t, what+": Rest", s.Rest())
}

// P1.2: things are taken in order, and are left behind.
func TestSource(t *testing.T) {
	s := wire.Read([]byte{255, 1, 2, 128, 0, 0, 7, 9, 10, 11, 12, 13, 14})
	stands(t, "new", s, 13, 0, api.OK, api.ErrBad)
	is(t, "U8", s.U8(), 255)
	stands(t, "behind U8", s, 12, 1, api.OK, api.ErrBad)
	is(t, "U16", s.U16(), 258)
	stands(t, "behind U16", s, 10, 3, api.OK, api.ErrBad)
	is(t, "U32", s.U32(), 1<<31+7)
	stands(t, "behind U32", s, 6, 7, api.OK, api.ErrBad)
	list(t, "Bytes", s.Bytes(2), 9, 10)
	stands(t, "behind Bytes", s, 4, 9, api.OK, api.ErrBad)
	stands(t, "Sub", s.Sub(1), 1, 0, api.OK, api.ErrBad)
	stands(t, "behind Sub", s, 3, 10, api.OK, api.ErrBad)
	list(t, "Rest", s.Rest(), 12, 13, 14)
	stands(t, "behind Rest", s, 0, 13, api.OK, api.OK)
}

// P1.2: none at all are taken without an error, also at the end.
func TestSourceOfNothing(t *testing.T) {
	for _, none := range [][]byte{nil, {}, make([]byte, 0, 8)} {
		s := wire.Read(none)
		stands(t, "of nothing", s, 0, 0, api.OK, api.OK)
		list(t, "Bytes", s.Bytes(0))
		list(t, "Rest", s.Rest())
		list(t, "Rest again", s.Rest())
		stands(t, "Sub", s.Sub(0), 0, 0, api.OK, api.OK)
		stands(t, "behind", s, 0, 0, api.OK, api.OK)
		is(t, "U8", s.U8(), 0)
		stands(t, "with an error", s, 0, 0, api.ErrShort, api.ErrShort)
	}
	s := wire.Read([]byte{1, 2})
	list(t, "Bytes of none", s.Bytes(0))
	stands(t, "Sub of none", s.Sub(0), 0, 0, api.OK, api.OK)
	stands(t, "behind none", s, 2, 0, api.OK, api.ErrBad)
}

// takes: each call that can lack bytes, with how many it takes.
var takes = []struct {
	name string
	size int
	take func(s *wire.Source)
}{
	{"U8", 1, func(s *wire.Source) { s.U8() }},
	{"U16", 2, func(s *wire.Source) { s.U16() }},
	{"U32", 4, func(s *wire.Source) { s.U32() }},
	{"Bytes", 5, func(s *wire.Source) { s.Bytes(5) }},
	{"Sub", 5, func(s *wire.Source) { s.Sub(5) }},
}

// P1.2: each takes just as many bytes as it needs; with one too few it takes none.
func TestSourceShort(t *testing.T) {
	for _, x := range takes {
		s := wire.Read(make([]byte, 3+x.size))
		s.Bytes(3)
		x.take(s)
		stands(t, x.name+" of just enough", s, 0, 3+x.size, api.OK, api.OK)

		s = wire.Read(make([]byte, 2+x.size))
		s.Bytes(3)
		x.take(s)
		stands(t, x.name+" of too few", s, 0, 3, api.ErrShort, api.ErrShort)
		zeros(t, x.name+" of too few", s)
		stands(t, x.name+" of too few, later", s, 0, 3, api.ErrShort, api.ErrShort)
	}
}

// P1.2: too few bytes: the answer is zero, not a part, and those that are there stay.
func TestSourceShortAnswers(t *testing.T) {
	is(t, "U16", wire.Read([]byte{1}).U16(), 0)
	is(t, "U32", wire.Read([]byte{1, 2, 3}).U32(), 0)
	list(t, "Bytes", wire.Read([]byte{1, 2, 3}).Bytes(4))
	list(t, "Bytes of the most", wire.Read([]byte{1, 2, 3}).Bytes(math.MaxInt))
	s := wire.Read([]byte{1, 2, 3})
	is(t, "the example's U16", s.U16(), 258)
	is(t, "the example's next U16", s.U16(), 0)
	stands(t, "the example", s, 0, 2, api.ErrShort, api.ErrShort)
	s = wire.Read([]byte{1, 2, 3})
	s.U8()
	s.Bytes(math.MaxInt) // with what was left behind, this wraps
	stands(t, "Bytes of the most", s, 0, 1, api.ErrShort, api.ErrShort)
}

// P1.2: a count below 0.
func TestSourceArg(t *testing.T) {
	for _, n := range []int{-1, -2, math.MinInt} {
		for _, have := range []int{1, 4} { // at the end, and ahead of it
			s := wire.Read(make([]byte, have))
			s.U8()
			list(t, "Bytes", s.Bytes(n))
			stands(t, "Bytes below 0", s, 0, 1, api.ErrArg, api.ErrArg)
			zeros(t, "Bytes below 0", s)

			s = wire.Read(make([]byte, have))
			s.U8()
			stands(t, "Sub's answer", s.Sub(n), 0, 0, api.OK, api.OK)
			stands(t, "Sub below 0", s, 0, 1, api.ErrArg, api.ErrArg)
			zeros(t, "Sub below 0", s)
		}
	}
}

// P1.2: the first error stays, whichever comes behind it.
func TestSourceFirstErrorStays(t *testing.T) {
	s := wire.Read([]byte{1, 2, 3})
	s.U32()
	s.Bytes(-1)
	s.Sub(-1)
	stands(t, "ErrShort first", s, 0, 0, api.ErrShort, api.ErrShort)

	s = wire.Read([]byte{1, 2, 3})
	s.Bytes(-1)
	s.U32()
	s.Sub(9)
	stands(t, "ErrArg first", s, 0, 0, api.ErrArg, api.ErrArg)
}

// P1.2: what bytes are left may still be taken behind an End that found them.
func TestSourceEndStaysNot(t *testing.T) {
	s := wire.Read([]byte{1, 2, 3})
	is(t, "End", s.End(), api.ErrBad)
	is(t, "Err", s.Err(), api.OK)
	is(t, "U16", s.U16(), 258)
	is(t, "End", s.End(), api.ErrBad)
	is(t, "U8", s.U8(), 3)
	is(t, "End", s.End(), api.OK)
}

// P1.2: sources of sources end where they were told to, and go their own ways.
func TestSub(t *testing.T) {
	s := wire.Read([]byte{1, 2, 3, 4, 5, 6, 7, 8, 9})
	is(t, "U8", s.U8(), 1)
	outer := s.Sub(6)
	is(t, "outer U8", outer.U8(), 2)
	inner := outer.Sub(3)
	is(t, "U8 behind Sub", s.U8(), 8)
	is(t, "inner U16", inner.U16(), 0x304)
	is(t, "inner beyond its end", inner.U16(), 0)
	stands(t, "inner", inner, 0, 2, api.ErrShort, api.ErrShort)
	stands(t, "outer", outer, 2, 4, api.OK, api.ErrBad)
	list(t, "outer's rest", outer.Rest(), 6, 7)
	is(t, "outer beyond its end", outer.U8(), 0)
	stands(t, "outer later", outer, 0, 6, api.ErrShort, api.ErrShort)
	stands(t, "source", s, 1, 8, api.OK, api.ErrBad)
	list(t, "source's rest", s.Rest(), 9)
}

// P1.2: an error of the source doesn't reach those made ahead of it; Sub behind it is of nothing, and is made.
func TestSubBehindError(t *testing.T) {
	s := wire.Read([]byte{1, 2, 3, 4})
	ahead := s.Sub(2)
	stands(t, "too long", s.Sub(3), 0, 0, api.OK, api.OK)
	stands(t, "source", s, 0, 2, api.ErrShort, api.ErrShort)
	list(t, "ahead", ahead.Rest(), 1, 2)
	stands(t, "ahead", ahead, 0, 2, api.OK, api.OK)
	for _, n := range []int{-1, 0, 1, 9} {
		behind := s.Sub(n)
		stands(t, "behind an error", behind, 0, 0, api.OK, api.OK)
		is(t, "U8 of nothing", behind.U8(), 0)
		is(t, "error of nothing", behind.Err(), api.ErrShort)
	}
}

// P1.2, R5: a source that no call made.
func TestSourceUnmade(t *testing.T) {
	var zero wire.Source
	for _, s := range []*wire.Source{nil, &zero, new(wire.Source)} {
		for range 2 {
			stands(t, "unmade", s, 0, 0, api.ErrMade, api.ErrMade)
			zeros(t, "unmade", s)
			for _, n := range []int{-1, 0, 1} {
				if s.Sub(n) != nil {
					t.Errorf("Sub(%d) of an unmade source is made", n)
				}
			}
		}
	}
	if !reflect.DeepEqual(zero, wire.Source{}) {
		t.Error("calls changed a source that no call made")
	}
}

// R3: the caller may change what it handed in, and what it got.
func TestSourceMemory(t *testing.T) {
	b := []byte{1, 2, 3, 4, 5, 6, 90}
	s := wire.Read(b[:6])
	clear(b)
	got := s.Bytes(2)
	sub := s.Sub(2)
	part := sub.Bytes(1)
	for _, l := range [][]byte{got, part} {
		l = l[:cap(l)]
		for i := range l {
			l[i] = 77
		}
	}
	_ = append(got, 78, 79, 80)
	list(t, "sub's rest", sub.Rest(), 4)
	rest := s.Rest()
	list(t, "rest", rest, 5, 6)

	b = []byte{1, 2, 90}
	s = wire.Read(b[:2])
	s.U16()
	s.U8()
	stands(t, "the room behind b's end", s, 0, 2, api.ErrShort, api.ErrShort)
	list(t, "what was handed in", b, 1, 2, 90)

	s = wire.Read([]byte{1, 2})
	rest = s.Sub(2).Rest()
	list(t, "rest of a sub", rest, 1, 2)
}

// R3: Rest is new memory too: the same bytes are told by two sources.
func TestRestIsNewMemory(t *testing.T) {
	b := []byte{1, 2, 3}
	s := wire.Read(b)
	copied := *s // a copy of a source stands where the source stood
	first := s.Rest()
	first = first[:cap(first)]
	for i := range first {
		first[i] = 77
	}
	list(t, "the copy's rest", copied.Rest(), 1, 2, 3)
	list(t, "what was handed in", b, 1, 2, 3)
}

// plain is a source again, by what the chapter says, with nothing shared.
type plain struct {
	rest []byte
	at   int
	err  api.Errno
}

func (p *plain) take(n int) []byte {
	if p.err == api.OK && n < 0 {
		p.err = api.ErrArg
	}
	if p.err == api.OK && n > len(p.rest) {
		p.err = api.ErrShort
	}
	if p.err != api.OK {
		p.rest = nil
		return nil
	}
	got := bytes.Clone(p.rest[:n])
	p.rest = p.rest[n:]
	p.at += n
	return got
}

func (p *plain) number(n int) uint32 {
	sum := uint32(0)
	for _, x := range p.take(n) {
		sum = sum*256 + uint32(x)
	}
	return sum
}

// P1.2: many rows of calls, sources of sources among them, against the plain one.
func TestSourceAgainstPlain(t *testing.T) {
	r := rand.New(rand.NewSource(1))
	for range 3000 {
		b := make([]byte, r.Intn(40))
		r.Read(b)
		s, p := wire.Read(b), &plain{rest: b}
		for range 12 {
			n := r.Intn(7) - r.Intn(30)/29 // below 0 once in a while
			switch r.Intn(6) {
			case 0:
				is(t, "U8", s.U8(), int(p.number(1)))
			case 1:
				is(t, "U16", s.U16(), int(p.number(2)))
			case 2:
				is(t, "U32", s.U32(), p.number(4))
			case 3:
				list(t, "Bytes", s.Bytes(n), p.take(n)...)
			case 4:
				list(t, "Rest", s.Rest(), p.take(len(p.rest))...)
			default:
				if sub := p.take(3 * n); r.Intn(2) == 0 {
					s, p = s.Sub(3*n), &plain{rest: sub}
				} else {
					list(t, "Sub's rest", s.Sub(3*n).Rest(), sub...)
				}
			}
			end := p.err
			if len(p.rest) > 0 {
				end = api.ErrBad
			}
			stands(t, "source", s, len(p.rest), p.at, p.err, end)
		}
		if t.Failed() {
			return
		}
	}
}
