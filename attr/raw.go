package attr

import (
	"math"
	"slices"

	"fairway/api"
	"fairway/wire"
)

// Flags: an attribute that not all know; one that is handed on; one whose length has two bytes.
const (
	optional   = 128
	transitive = 64
	extended   = 16
)

// Split: the attributes of which b is made.
func Split(b []byte) ([]Raw, api.Fault) {
	var l []Raw
	s := wire.Read(b)
	for s.Left() > 0 {
		l = append(l, next(s))
	}
	if s.Err() != api.OK {
		return nil, fault(listSub)
	}
	return l, api.Fault{}
}

// next: the attribute with which a source goes on.
func next(s *wire.Source) Raw {
	flags, kind := s.U8(), s.U8()
	length := s.U8
	if flags&extended != 0 {
		length = s.U16
	}
	return Raw{Flags: flags, Type: kind, Value: s.Bytes(length())}
}

// Join: the bytes of all attributes, one behind the other.
func Join(l []Raw) []byte {
	var b []byte
	for _, r := range l {
		b = append(b, r.bytes()...)
	}
	return b
}

// bytes: those of one attribute. Of its Value there is what its length has room for.
func (r Raw) bytes() []byte {
	length, most := wire.Put8, math.MaxUint8
	if r.Flags&extended != 0 {
		length, most = wire.Put16, math.MaxUint16
	}
	value := r.Value[:min(len(r.Value), most)]
	head := wire.Put8(wire.Put8(nil, r.Flags), r.Type)
	return slices.Concat(length(head, len(value)), value)
}
