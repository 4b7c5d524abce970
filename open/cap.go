package open

import (
	"bytes"
	"math"
	"slices"

	"fairway/wire"
)

// Cap is something that a speaker can do.
type Cap struct {
	Code  int
	Value []byte
}

// How much caps may be: a Code, the bytes of a Value, and those of all caps, each with its head.
const (
	mostCode  = math.MaxUint8
	mostValue = 100
	mostCaps  = 200
	capHead   = 2
)

// some: is there a cap of which the test with that number holds?
func some(l []Cap, test func(c Cap, n int) bool, n int) bool {
	for _, c := range l {
		if test(c, n) {
			return true
		}
	}
	return false
}

// is: has it that Code?
func (c Cap) is(code int) bool { return c.Code == code }

// beyond: is its Code none from 0 to that one?
func (c Cap) beyond(most int) bool { return c.Code < 0 || c.Code > most }

// longer: has its Value more bytes?
func (c Cap) longer(most int) bool { return len(c.Value) > most }

// same: is it alike?
func (c Cap) same(d Cap) bool { return c.Code == d.Code && bytes.Equal(c.Value, d.Value) }

// bytes: Code, a byte of how many bytes Value has, Value.
func (c Cap) bytes() []byte { return slices.Concat(wire.Put8(nil, c.Code), counted(c.Value)) }

// goodCaps: may each of them be, and is there room for all?
func goodCaps(l []Cap) bool {
	return !some(l, Cap.beyond, mostCode) && !some(l, Cap.longer, mostValue) && size(l) <= mostCaps
}

// size: how many bytes all have.
func size(l []Cap) int {
	n := 0
	for _, c := range l {
		n += capHead + len(c.Value)
	}
	return n
}

// capsBytes: the bytes of all, one behind the other.
func capsBytes(l []Cap) []byte {
	var b []byte
	for _, c := range l {
		b = append(b, c.bytes()...)
	}
	return b
}
