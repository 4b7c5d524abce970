package attr

import (
	"strconv"
	"strings"

	"fairway/api"
	"fairway/wire"
)

// What a part of a path may be: numbers in any order, or in the order in which they were passed.
const (
	set      = 1
	sequence = 2
)

// asSize: how many bytes a number of a path has.
const asSize = 2

// pathBytes: a path as one part; an empty one has none.
func pathBytes(path []int) []byte {
	if len(path) == 0 {
		return nil
	}
	b := wire.Put8(wire.Put8(nil, sequence), len(path))
	for _, as := range path {
		b = wire.Put16(b, as)
	}
	return b
}

// readPath: the numbers of all parts of which a source is made; false, if it is not, or may not be a path.
func readPath(s *wire.Source) ([]int, bool) {
	var path []int
	for s.Left() > 0 {
		kind, n := s.U8(), s.U8()
		if kind != set && kind != sequence || n == 0 {
			return nil, false
		}
		for part := s.Sub(n * asSize); part.Left() > 0; {
			path = append(path, part.U16())
		}
	}
	if s.Err() != api.OK || !goodPath(path) {
		return nil, false
	}
	return path, true
}

// pathText: the numbers with blanks between, in brackets.
func pathText(path []int) string {
	var words []string
	for _, as := range path {
		words = append(words, strconv.Itoa(as))
	}
	return "(" + strings.Join(words, " ") + ")"
}
