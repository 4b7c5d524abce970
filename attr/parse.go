package attr

import (
	"fairway/api"
	"fairway/wire"
)

// updateCode is that of all faults of an UPDATE.
const updateCode = 3

// Subs: which fault of an UPDATE.
const (
	listSub    = 1 // the attributes lack their end, or one comes twice
	unknownSub = 2
	missingSub = 3
	flagsSub   = 4
	sizeSub    = 5
	originSub  = 6
	hopSub     = 8
	pathSub    = 11
)

// How many bytes a Value has; those of a path tell their end themselves.
const (
	originSize = 1
	hopSize    = 4
	medSize    = 4
	anySize    = -1
)

// Parse: what is said by the attributes of which b is made, or their first fault.
func Parse(b []byte) (Attrs, api.Fault) {
	l, f := Split(b)
	if f.Code != 0 {
		return Attrs{}, f
	}
	var a Attrs
	var met [256]bool // by Type, which Split takes from a byte
	for _, r := range l {
		if met[r.Type] {
			return Attrs{}, fault(listSub)
		}
		met[r.Type] = true
		if sub := a.take(r); sub != 0 {
			return Attrs{}, faultOf(sub, r)
		}
	}
	for kind := Origin; kind <= NextHop; kind++ {
		if !met[kind] {
			return Attrs{}, fault(missingSub, byte(kind))
		}
	}
	return a, api.Fault{}
}

// take puts into a what an attribute says: the Sub of its first fault, or 0.
func (a *Attrs) take(r Raw) int {
	switch r.Type {
	case Origin:
		return r.ask(transitive, originSize, func(s *wire.Source) int {
			a.Origin = s.U8()
			return unless(a.Origin <= mostOrigin, originSub)
		})
	case Path:
		return r.ask(transitive, anySize, func(s *wire.Source) int {
			path, ok := readPath(s)
			a.Path = path
			return unless(ok, pathSub)
		})
	case NextHop:
		return r.ask(transitive, hopSize, func(s *wire.Source) int {
			a.NextHop = s.U32()
			return unless(Hop(a.NextHop), hopSub)
		})
	case Med:
		return r.ask(optional, medSize, func(s *wire.Source) int {
			a.Med, a.HasMed = int(s.U32()), true
			return 0
		})
	}
	return unless(r.Flags&optional != 0, unknownSub)
}

// ask asks a step for the Value, if Flags and size are as they must be: the Sub of the first fault, or 0.
func (r Raw) ask(flags, size int, step func(s *wire.Source) int) int {
	switch {
	case r.Flags&^extended != flags:
		return flagsSub
	case size != anySize && len(r.Value) != size:
		return sizeSub
	}
	return step(wire.Read(r.Value))
}

// unless: that Sub, unless all is well.
func unless(well bool, sub int) int {
	if well {
		return 0
	}
	return sub
}

// faultOf: the fault of an attribute. A path that is none is told without its bytes.
func faultOf(sub int, r Raw) api.Fault {
	if sub == pathSub {
		return fault(sub)
	}
	return fault(sub, r.bytes()...)
}

func fault(sub int, data ...byte) api.Fault {
	return api.Fault{Code: updateCode, Sub: sub, Data: data}
}
