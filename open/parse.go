package open

import (
	"fairway/api"
	"fairway/wire"
)

// openCode is that of all faults of an OPEN.
const openCode = 2

// Subs: which fault of an OPEN.
const (
	plainSub   = 0 // bytes that lack their end, or go beyond it
	versionSub = 1
	asSub      = 2
	idSub      = 3
	kindSub    = 4
	holdSub    = 6
)

// check notes a fault of that Sub, unless all is well or there is one already: is there still none?
type check func(well bool, sub int, data ...byte) bool

// Parse: what a body says of the speaker of that number (below 1: of any), or its first fault.
func Parse(b []byte, as int) (Open, api.Fault) {
	var first api.Fault
	must := func(well bool, sub int, data ...byte) bool {
		if !well && first.Code == 0 {
			first = api.Fault{Code: openCode, Sub: sub, Data: data}
		}
		return first.Code == 0
	}
	s := wire.Read(b)
	o := readHead(s, as, must)
	for first.Code == 0 && s.Left() > 0 {
		o.Caps = append(o.Caps, readParameter(s, must)...)
	}
	if first.Code != 0 {
		return Open{}, first
	}
	return o, api.Fault{}
}

// readHead: all that stands ahead of the parameters.
func readHead(s *wire.Source, as int, must check) Open {
	told := s.U8()
	o := Open{As: s.U16(), Hold: s.U16(), Id: s.U32()}
	size := s.U8()
	must(s.Err() == api.OK, plainSub)
	must(told == version, versionSub, 0, version)
	must(o.As != 0 && (as < 1 || o.As == as), asSub)
	must(goodHold(o.Hold), holdSub)
	must(o.Id != 0, idSub)
	must(s.Left() == size, plainSub)
	return o
}

// readParameter: the caps of the parameter with which a source goes on.
func readParameter(s *wire.Source, must check) []Cap {
	kind := s.U8()
	in := s.Sub(s.U8())
	if !must(s.Err() == api.OK, plainSub) || !must(kind == capsKind, kindSub) {
		return nil
	}
	var l []Cap
	for in.Left() > 0 {
		l = append(l, Cap{Code: in.U8(), Value: in.Bytes(in.U8())})
	}
	must(in.Err() == api.OK, plainSub)
	return l
}
