package prefix_test

import (
	"fmt"
	"math"
	"math/rand"
	"net/netip"
	"strings"
	"testing"

	"fairway/api"
	"fairway/prefix"
)

// P3.3: four numbers with points between, the greatest byte first.
func TestAddr(t *testing.T) {
	is(t, "Addr of 0", prefix.Addr(0), "0.0.0.0")
	is(t, "Addr of the greatest", prefix.Addr(math.MaxUint32), "255.255.255.255")
	is(t, "Addr", prefix.Addr(addr(10, 1, 200, 99)), "10.1.200.99")
	is(t, "Addr of 1", prefix.Addr(1), "0.0.0.1")
	is(t, "Addr of the first byte", prefix.Addr(1<<31), "128.0.0.0")
	for _, a := range addrs {
		is(t, "Addr", prefix.Addr(a), fmt.Sprintf("%d.%d.%d.%d", a>>24, a>>16&255, a>>8&255, a&255))
	}
}

// P3.3: texts that Addr tells.
func TestParseAddr(t *testing.T) {
	for _, x := range []struct {
		s    string
		want uint32
	}{
		{"0.0.0.0", 0},
		{"0.0.0.1", 1},
		{"1.0.0.0", 1 << 24},
		{"10.1.200.99", addr(10, 1, 200, 99)},
		{"9.10.99.100", addr(9, 10, 99, 100)},
		{"249.250.199.0", addr(249, 250, 199, 0)},
		{"255.255.255.255", math.MaxUint32},
	} {
		got, ok := prefix.ParseAddr(x.s)
		is(t, "ParseAddr of "+x.s, got, x.want)
		is(t, "ParseAddr of "+x.s, ok, true)
	}
}

// noAddrs are texts that Addr does not tell of any address.
var noAddrs = []string{
	"", " ", ".", "...", "....", "1", "1.2", "1.2.3", "1.2.3.", "1.2.3.4.", ".1.2.3.4", "1.2.3.4.5", ".2.3.4", "1..3.4", "1.2..4", "1.2.3..4",
	"256.0.0.0", "0.256.0.0", "0.0.256.0", "0.0.0.256", "300.1.1.1", "1.1.1.999", "1000.0.0.0", "0.0.0.1000",
	"01.2.3.4", "1.02.3.4", "1.2.3.04", "00.0.0.0", "0.0.0.00", "000.0.0.0", "1.2.3.010", "0255.1.1.1",
	"4294967297.0.0.0", "0.0.0.4294967296", "18446744073709551617.0.0.0", "0.0.0.18446744073709551616", "0.0.0." + "1" + "00000000000000000000000000000000000000000000",
	" 1.2.3.4", "1.2.3.4 ", "1. 2.3.4", "1 .2.3.4", "1.2.3.4\n", "\t1.2.3.4", "1.2.3.4\x00", "\x001.2.3.4",
	"+1.2.3.4", "-1.2.3.4", "1.2.3.+4", "1.2.3.-4", "-0.0.0.0", "1_0.2.3.4", "0x1.2.3.4", "1e1.2.3.4", "a.b.c.d", "1.2.3.a", "1.2.3.4a", "1.2.a3.4",
	"1,2,3,4", "1:2:3:4", "1.2.3/4", "1.2.3.4/8", "1.2.3.4/32", "/1.2.3.4", "1.2.3.:", "1.2.3./", "1.2.3.9:", "1.2.3.4-", "::1", "::ffff:1.2.3.4",
	"\u0661.2.3.4",              // a digit one of another script
	"1.2.3.\uff14",              // a wide 4
	"\u0131.2.3.4",              // its lowest byte is that of a 1
	"1\u012e2.3.4",              // its lowest byte is that of a point
	"1.2.3.4\u0130",             // its lowest byte is that of a 0
	"\xff.2.3.4", "1.2.3.4\xff", // no rune
	"1.2\xe2\x82.3.4", "\xef\xbb\xbf1.2.3.4",
}

// P3.3: texts that Addr does not tell.
func TestParseAddrWrong(t *testing.T) {
	for _, s := range noAddrs {
		got, ok := prefix.ParseAddr(s)
		is(t, fmt.Sprintf("ParseAddr of %q", s), got, 0)
		is(t, fmt.Sprintf("ParseAddr of %q", s), ok, false)
	}
}

// P3.3: Addr, a stroke, Len, of Canon.
func TestText(t *testing.T) {
	is(t, "Text", prefix.Text(pre(10, 1, 0, 0, 16)), "10.1.0.0/16")
	is(t, "Text of nothing", prefix.Text(api.Prefix{}), "0.0.0.0/0")
	is(t, "Text of all bits", prefix.Text(pre(255, 255, 255, 255, 32)), "255.255.255.255/32")
	is(t, "Text of one digit", prefix.Text(pre(10, 0, 0, 0, 8)), "10.0.0.0/8")
	is(t, "Text of bits behind Len", prefix.Text(pre(10, 255, 2, 3, 11)), "10.224.0.0/11")
	is(t, "Text of below 0", prefix.Text(pre(10, 1, 2, 3, -1)), "0.0.0.0/0")
	is(t, "Text of above 32", prefix.Text(pre(10, 1, 2, 3, 33)), "10.1.2.3/32")
	for n, near := range lens {
		for _, a := range addrs {
			m := a & plainMask(near)
			want := fmt.Sprintf("%d.%d.%d.%d/%d", m>>24, m>>16&255, m>>8&255, m&255, near)
			is(t, "Text", prefix.Text(api.Prefix{Addr: a, Len: n}), want)
		}
	}
}

// P3.3: texts that Text tells of a Good one.
func TestParseText(t *testing.T) {
	for _, x := range []struct {
		s    string
		want api.Prefix
	}{
		{"0.0.0.0/0", api.Prefix{}},
		{"0.0.0.0/32", pre(0, 0, 0, 0, 32)},
		{"128.0.0.0/1", pre(128, 0, 0, 0, 1)},
		{"10.0.0.0/8", pre(10, 0, 0, 0, 8)},
		{"10.0.0.0/9", pre(10, 0, 0, 0, 9)},
		{"10.0.0.0/10", pre(10, 0, 0, 0, 10)},
		{"10.1.0.0/16", pre(10, 1, 0, 0, 16)},
		{"10.1.2.3/32", pre(10, 1, 2, 3, 32)},
		{"255.255.255.254/31", pre(255, 255, 255, 254, 31)},
	} {
		got, ok := prefix.ParseText(x.s)
		is(t, "ParseText of "+x.s, got, x.want)
		is(t, "ParseText of "+x.s, ok, true)
	}
}

// noText: ParseText tells nothing of s.
func noText(t *testing.T, s string) {
	t.Helper()
	got, ok := prefix.ParseText(s)
	is(t, fmt.Sprintf("ParseText of %q", s), got, api.Prefix{})
	is(t, fmt.Sprintf("ParseText of %q", s), ok, false)
}

// P3.3: texts that Text does not tell, for their Len, their stroke, or their address.
func TestParseTextWrong(t *testing.T) {
	for _, s := range []string{
		"10.1.0.0", "10.1.0.0/", "/16", "/", "", "10.1.0.0//16", "10.1.0.0/16/", "10.1.0.0/16/16", "10.1.0.0/16 ", "10.1.0.0 /16", "10.1.0.0/ 16", " 10.1.0.0/16", "10.1.0.0/16\n",
		"0.0.0.0/33", "0.0.0.0/99", "0.0.0.0/100", "0.0.0.0/256", "0.0.0.0/288", "0.0.0.0/4294967304", "0.0.0.0/18446744073709551624",
		"10.0.0.0/08", "10.0.0.0/008", "0.0.0.0/00", "10.0.0.0/+8", "0.0.0.0/-0", "0.0.0.0/-1", "10.0.0.0/8a", "10.0.0.0/0x8", "10.0.0.0/8.", "10.0.0.0/8.0", "10.0.0.0\\8", "10.0.0.0:8",
		"10.0.0.0/\u0668", "10.0.0.0/\u0138", "10.0.0.0\u012f8", "10.0.0.0/8\xff", "10.0.0.0\xff/8",
	} {
		noText(t, s)
	}
	for _, s := range noAddrs {
		noText(t, s+"/32")
		noText(t, s+"/0")
	}
}

// P3.3: a prefix that is not Good, by its first bit behind Len, and by its last.
func TestParseTextNotGood(t *testing.T) {
	noText(t, "10.1.0.1/16")
	noText(t, "10.0.0.0/6")
	noText(t, "128.0.0.0/0")
	for n := range 32 {
		noText(t, fmt.Sprintf("%s/%d", prefix.Addr(1<<(31-n)), n))
		noText(t, fmt.Sprintf("%s/%d", prefix.Addr(1), n))
	}
}

// turned is a text in which one thing was changed, or none.
func turned(r *rand.Rand, s string) string {
	const with = "0123456789./ -+a\xff"
	at := r.Intn(len(s))
	x := string(with[r.Intn(len(with))])
	switch r.Intn(5) {
	case 0:
		return s[:at] + x + s[at+1:]
	case 1:
		return s[:at] + x + s[at:]
	case 2:
		return s[:at] + s[at+1:]
	case 3:
		return s + x
	}
	return s
}

// P3.3: many texts, most of them near to right ones, against the library's own reading of addresses.
func TestParseAgainstNetip(t *testing.T) {
	r := rand.New(rand.NewSource(34))
	right := 0
	for range 20000 {
		s := turned(r, fmt.Sprintf("%d.%d.%d.%d", r.Intn(270), r.Intn(12), r.Intn(270), r.Intn(120)))
		var want uint32
		theirs, err := netip.ParseAddr(s)
		if err == nil {
			b := theirs.As4()
			want = addr(b[0], b[1], b[2], b[3])
			right++
		}
		got, ok := prefix.ParseAddr(s)
		is(t, fmt.Sprintf("ParseAddr of %q", s), got, want)
		is(t, fmt.Sprintf("ParseAddr of %q", s), ok, err == nil)
	}
	if right < 4000 || right > 16000 {
		t.Errorf("%d of 20000 are right: this tests little", right)
	}
}

// P3.3: likewise of prefixes.
func TestParseTextAgainstNetip(t *testing.T) {
	r := rand.New(rand.NewSource(35))
	right := 0
	for range 20000 {
		n := r.Intn(35)
		s := turned(r, fmt.Sprintf("%s/%d", prefix.Addr(some(r)&plainMask(n+r.Intn(2))), n))
		var want api.Prefix
		theirs, err := netip.ParsePrefix(s)
		good := err == nil && theirs.Masked() == theirs
		if good {
			b := theirs.Addr().As4()
			want = pre(b[0], b[1], b[2], b[3], theirs.Bits())
			right++
		}
		got, ok := prefix.ParseText(s)
		is(t, fmt.Sprintf("ParseText of %q", s), got, want)
		is(t, fmt.Sprintf("ParseText of %q", s), ok, good)
	}
	if right < 4000 || right > 16000 {
		t.Errorf("%d of 20000 are right: this tests little", right)
	}
}

// P3.4: addresses and Good prefixes lead back from texts.
func TestBackFromText(t *testing.T) {
	r := rand.New(rand.NewSource(36))
	for n := range 33 {
		for range 200 {
			a := some(r)
			back, ok := prefix.ParseAddr(prefix.Addr(a))
			is(t, "ParseAddr of Addr", back, a)
			is(t, "ParseAddr", ok, true)

			p := api.Prefix{Addr: a & plainMask(n), Len: n}
			got, ok := prefix.ParseText(prefix.Text(p))
			is(t, "ParseText of Text", got, p)
			is(t, "ParseText", ok, true)
		}
	}
	for i := range 256 {
		for _, at := range []int{0, 8, 16, 24} {
			a := uint32(i) << at
			back, ok := prefix.ParseAddr(prefix.Addr(a))
			is(t, "ParseAddr of Addr", back, a)
			is(t, "ParseAddr", ok, true)
		}
	}
}

// P1: texts of any length end, also of digits alone.
func TestParseLongTexts(t *testing.T) {
	for _, x := range []string{"0", "1", ".", "/", "1.", "1/", " ", "\xff", "é"} {
		s := strings.Repeat(x, 1<<16)
		got, ok := prefix.ParseAddr(s)
		is(t, "ParseAddr of a long one", got, 0)
		is(t, "ParseAddr of a long one", ok, false)
		noText(t, s)
		noText(t, "10.0.0.0/8"+s)
		noText(t, s+"10.0.0.0/8")
	}
}
