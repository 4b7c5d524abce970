package update

import (
	"fairway/api"
	"fairway/attr"
	"fairway/prefix"
	"fairway/wire"
)

// updateCode is that of all faults of an UPDATE.
const updateCode = 3

// Subs: which fault of an UPDATE. Those of attributes are attr's; one of them is no fault everywhere.
const (
	listSub    = 1 // bytes that lack their end
	missingSub = 3 // attr's: an attribute that must be there is not
	prefixSub  = 10
)

// Parse: what a body says, or its first fault.
func Parse(b []byte) (Update, api.Fault) {
	s := wire.Read(b)
	counted := func() []byte { return s.Bytes(s.U16()) }
	gone, said, told := counted(), counted(), s.Rest()
	if s.Err() != api.OK {
		return Update{}, fault(listSub)
	}
	withdrawn, well := prefix.Parse(gone)
	nlri, fine := prefix.Parse(told)
	if !well || !fine {
		return Update{}, fault(prefixSub)
	}
	attrs, f := readAttrs(said, len(nlri) > 0)
	if f.Code != 0 {
		return Update{}, f
	}
	return Update{Withdrawn: withdrawn, Attrs: attrs, Nlri: nlri}, api.Fault{}
}

// readAttrs: what attributes say of Nlri, or their first fault. Without Nlri they say nothing, and may be missing.
func readAttrs(b []byte, nlri bool) (attr.Attrs, api.Fault) {
	a, f := attr.Parse(b)
	if nlri {
		return a, f
	}
	if f.Sub == missingSub {
		f = api.Fault{}
	}
	return attr.Attrs{}, f
}

func fault(sub int) api.Fault { return api.Fault{Code: updateCode, Sub: sub} }
