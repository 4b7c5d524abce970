package wire

import (
	"bytes"

	"fairway/api"
)

// Source is bytes that are taken from their front. Its first error stays, so that a caller may take many things and ask once.
type Source struct {
	made bool // tells a source of nothing from one that no call made
	all  []byte
	at   int
	err  api.Errno
}

// Read: a source of these bytes.
func Read(b []byte) *Source { return source(bytes.Clone(b)) }

// source keeps b as it is: nobody writes into what a source has, so that a source of a source needs no copy.
func source(b []byte) *Source { return &Source{made: true, all: b} }

// cut leaves the next n bytes behind and tells them. Its methods are the steps that a source can do: what they make of these bytes.
type cut func(n int) []byte

func (c cut) number(n int) uint32 { return number(c(n)) }

func (c cut) list(n int) []byte { return bytes.Clone(c(n)) }

func (c cut) source(n int) *Source { return source(c(n)) }

// cut may be asked of any source, but is to be called only where n bytes are there: see next.
func (s *Source) cut() cut {
	return func(n int) []byte {
		from := s.at
		s.at += n
		return s.all[from:s.at:s.at]
	}
}

// next does a step with n bytes; the zero value, if that can't be.
func next[T any](s *Source, n int, step func(n int) T) T {
	if !s.can(n) {
		var none T
		return none
	}
	return step(n)
}

// can notes the error, if n bytes can't be taken and there is none yet.
func (s *Source) can(n int) bool {
	if s.Err() != api.OK {
		return false
	}
	if n < 0 {
		s.err = api.ErrArg
	} else if n > s.Left() {
		s.err = api.ErrShort
	}
	return s.err == api.OK
}

// U8: the next number of one byte.
func (s *Source) U8() int { return int(next(s, 1, s.cut().number)) }

// U16: the next number of two bytes.
func (s *Source) U16() int { return int(next(s, 2, s.cut().number)) }

// U32: the next number of four bytes.
func (s *Source) U32() uint32 { return next(s, 4, s.cut().number) }

// Bytes: the next n bytes.
func (s *Source) Bytes(n int) []byte { return next(s, n, s.cut().list) }

// Sub: a source of the next n bytes, and of nothing, if they can't be had; nil of a source that no call made.
func (s *Source) Sub(n int) *Source {
	sub := next(s, n, s.cut().source)
	if sub == nil && s.isMade() {
		return source(nil)
	}
	return sub
}

// Rest: all bytes that are left.
func (s *Source) Rest() []byte { return next(s, s.Left(), s.cut().list) }

// Left: how many bytes are left; 0 behind an error.
func (s *Source) Left() int {
	if s.Err() != api.OK {
		return 0
	}
	return len(s.all) - s.at
}

// At: how many bytes were left behind.
func (s *Source) At() int {
	if !s.isMade() {
		return 0
	}
	return s.at
}

// Err: the first error.
func (s *Source) Err() api.Errno {
	if !s.isMade() {
		return api.ErrMade
	}
	return s.err
}

// End: Err, or ErrBad, if bytes are left. It is not noted: they may still be taken.
func (s *Source) End() api.Errno {
	if s.Left() > 0 {
		return api.ErrBad
	}
	return s.Err()
}

func (s *Source) isMade() bool { return s != nil && s.made }
