package prefix

import (
	"strconv"
	"strings"

	"fairway/api"
)

// part: how many bits each number of an address's text has.
const part = 8

// Addr: four numbers with points between.
func Addr(a uint32) string {
	var b []byte
	for at := bits - part; at >= 0; at -= part {
		b = strconv.AppendUint(b, uint64(byte(a>>at)), 10)
		if at > 0 {
			b = append(b, '.')
		}
	}
	return string(b)
}

// ParseAddr: the address of which Addr is s.
func ParseAddr(s string) (uint32, bool) {
	var a uint32
	for at := bits - part; at >= 0; at -= part {
		n, rest, ok := cutNumber(s, 1<<part-1)
		if at > 0 && ok {
			rest, ok = strings.CutPrefix(rest, ".")
		}
		if !ok {
			return 0, false
		}
		a |= uint32(n) << at
		s = rest
	}
	if s != "" {
		return 0, false
	}
	return a, true
}

// Text: the address, a stroke, and how many of its bits count.
func Text(p api.Prefix) string {
	p = Canon(p)
	return Addr(p.Addr) + "/" + strconv.Itoa(p.Len)
}

// ParseText: the Good prefix of which Text is s.
func ParseText(s string) (api.Prefix, bool) {
	addr, tail, _ := strings.Cut(s, "/")
	a, isAddr := ParseAddr(addr)
	n, rest, isNumber := cutNumber(tail, bits)
	p := api.Prefix{Addr: a, Len: n}
	if !isAddr || !isNumber || rest != "" || !Good(p) {
		return api.Prefix{}, false
	}
	return p, true
}

// cutNumber: the number with which s begins, and what stands behind it. A number has one text alone, so a nought ahead of other digits is none; it ends at the first digit that makes it more than most, so that it never wraps.
func cutNumber(s string, most int) (n int, rest string, ok bool) {
	for at, r := range s {
		if r < '0' || r > '9' {
			return n, s[at:], at > 0
		}
		leads := at > 0 && n == 0
		n = n*10 + int(r-'0')
		if leads || n > most {
			return 0, "", false
		}
	}
	return n, "", s != ""
}
