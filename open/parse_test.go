package open_test

import (
	"bytes"
	"fmt"
	"math"
	"math/rand"
	"testing"

	"fairway/api"
	"fairway/open"
)

// head: all that stands ahead of how many bytes the parameters have, with nothing wrong in it.
var head = []byte{4, 253, 233, 0, 90, 10, 0, 0, 1}

// plainOpen: what head says, with these caps.
func plainOpen(l ...open.Cap) open.Open {
	return open.Open{As: 65001, Hold: 90, Id: 10<<24 | 1, Caps: l}
}

// body: head, and these parameters' bytes with their count.
func body(params ...byte) []byte { return join(head, []byte{byte(len(params))}, params) }

// faulty holds a fault against what it should be; Code 0: none.
func faulty(t *testing.T, what string, got api.Fault, code, sub int, data ...byte) {
	t.Helper()
	is(t, what+": code", got.Code, code)
	is(t, what+": sub", got.Sub, sub)
	list(t, what+": data", got.Data, data...)
}

// parses: Parse of b tells this, and keeps b.
func parses(t *testing.T, what string, b []byte, as int, want open.Open) {
	t.Helper()
	was := bytes.Clone(b)
	o, f := open.Parse(b, as)
	faulty(t, what, f, 0, 0)
	alike(t, what, o, want)
	list(t, what+": what was handed in", b, was...)
}

// fails: Parse of b tells this fault, and nothing beside it.
func fails(t *testing.T, what string, b []byte, as, sub int) {
	t.Helper()
	was := bytes.Clone(b)
	o, f := open.Parse(b, as)
	var data []byte
	if sub == 1 {
		data = []byte{0, 4}
	}
	faulty(t, what, f, 2, sub, data...)
	alike(t, what, o, open.Open{})
	list(t, what+": what was handed in", b, was...)
}

// P8.2: all caps of all parameters, in their order.
func TestParse(t *testing.T) {
	parses(t, "the example", []byte{4, 253, 233, 0, 90, 0, 0, 0, 1, 0}, 65001, open.Open{As: 65001, Hold: 90, Id: 1})
	parses(t, "without parameters", body(), 65001, plainOpen())
	parses(t, "one cap", body(2, 2, 2, 0), 65001, plainOpen(open.Cap{Code: 2}))
	parses(t, "a parameter without caps", body(2, 0), 65001, plainOpen())
	parses(t, "many parameters without caps", body(bytes.Repeat([]byte{2, 0}, 127)...), 65001, plainOpen())
	parses(t, "one parameter, three caps", body(2, 9, 1, 2, 7, 8, 0, 0, 255, 1, 6), 65001,
		plainOpen(open.Cap{Code: 1, Value: []byte{7, 8}}, open.Cap{}, open.Cap{Code: 255, Value: []byte{6}}))
	parses(t, "four parameters", body(2, 3, 9, 1, 5, 2, 0, 2, 4, 1, 0, 9, 0, 2, 3, 8, 1, 2), 65001,
		plainOpen(open.Cap{Code: 9, Value: []byte{5}}, open.Cap{Code: 1}, open.Cap{Code: 9}, open.Cap{Code: 8, Value: []byte{2}}))
}

// P8.2: what comes may be longer than what Good lets be sent.
func TestParseLong(t *testing.T) {
	parses(t, "a value of 251", body(join([]byte{2, 253, 7, 251}, fill(251))...), 65001, plainOpen(open.Cap{Code: 7, Value: fill(251)}))
	var caps []open.Cap
	for range 126 {
		caps = append(caps, open.Cap{Code: 3})
	}
	parses(t, "126 caps", body(join([]byte{2, 252}, bytes.Repeat([]byte{3, 0}, 126))...), 65001, plainOpen(caps...))
	parses(t, "63 parameters", body(bytes.Repeat([]byte{2, 2, 3, 0}, 63)...), 65001, plainOpen(caps[:63]...))
}

// P8.2: numbers at their ends, each byte at its place.
func TestParseNumbers(t *testing.T) {
	parses(t, "numbers", []byte{4, 1, 2, 3, 4, 5, 6, 7, 8, 0}, 258, open.Open{As: 258, Hold: 772, Id: 0x05060708})
	parses(t, "the greatest", []byte{4, 255, 255, 255, 255, 255, 255, 255, 255, 0}, 65535, open.Open{As: 65535, Hold: 65535, Id: math.MaxUint32})
	parses(t, "the least", []byte{4, 0, 1, 0, 0, 0, 0, 0, 1, 0}, 1, open.Open{As: 1, Id: 1})
	for n := range 256 {
		b := body()
		b[0] = byte(n)
		what := fmt.Sprint("version ", n)
		if n == 4 {
			parses(t, what, b, 0, plainOpen())
		} else {
			fails(t, what, b, 0, 1)
		}
	}
	for hold := range 65536 {
		b := body()
		b[3], b[4] = byte(hold/256), byte(hold)
		what := fmt.Sprint("hold ", hold)
		if hold == 1 || hold == 2 {
			fails(t, what, b, 0, 6)
		} else {
			parses(t, what, b, 0, open.Open{As: 65001, Hold: hold, Id: 10<<24 | 1})
		}
	}
	for i := range 32 {
		b := body()
		id := uint32(1) << i
		copy(b[5:9], []byte{byte(id >> 24), byte(id >> 16), byte(id >> 8), byte(id)})
		parses(t, fmt.Sprint("id ", id), b, 0, open.Open{As: 65001, Hold: 90, Id: id})
	}
	b := body()
	clear(b[5:9])
	fails(t, "id 0", b, 65001, 3)
}

// P8.2, Sub 2: As is the one that is asked for, or, if none is, any but 0.
func TestParseAs(t *testing.T) {
	for _, as := range []int{1, 2, 255, 256, 65001, 65534, 65535} {
		b := body()
		b[1], b[2] = byte(as/256), byte(as)
		want := open.Open{As: as, Hold: 90, Id: 10<<24 | 1}
		for _, asked := range []int{as, 0, -1, -as, as - 65536, math.MinInt} {
			parses(t, fmt.Sprint("as ", as, ", asked for ", asked), b, asked, want)
		}
		for _, asked := range []int{as + 1, as + 65536, as + 256, 65536, math.MaxInt} {
			fails(t, fmt.Sprint("as ", as, ", asked for ", asked), b, asked, 2)
		}
	}
	fails(t, "another than 1", body(), 1, 2) // 1 is the least that is asked for
	b := body()
	b[1], b[2] = 0, 0
	for _, asked := range []int{0, -1, 1, 65535, 65536, math.MinInt, math.MaxInt} {
		fails(t, fmt.Sprint("as 0, asked for ", asked), b, asked, 2)
	}
}

// P8.2, Sub 0: fewer than ten bytes, whatever they are.
func TestParseShort(t *testing.T) {
	whole := body(2, 9, 1, 2, 7, 8, 0, 0, 255, 1, 6)
	fails(t, "nil", nil, 65001, 0)
	for n := range len(whole) {
		fails(t, fmt.Sprint("the first ", n), whole[:n], 65001, 0)
	}
	for n := range 10 {
		fails(t, fmt.Sprint(n, " noughts"), make([]byte, n), 7, 0)
		fails(t, fmt.Sprint(n, " times 255"), bytes.Repeat([]byte{255}, n), 7, 0)
	}
	fails(t, "ten noughts", make([]byte, 10), 7, 1)
}

// P8.2, Sub 0: the parameters have just as many bytes as the tenth byte tells.
func TestParseCount(t *testing.T) {
	params := bytes.Repeat([]byte{2, 0}, 130)
	for _, n := range []int{0, 2, 4, 128, 254, 256, 258} {
		for told := range 256 {
			b := join(head, []byte{byte(told)}, params[:n])
			what := fmt.Sprint(n, " bytes, told ", told)
			if n == told {
				parses(t, what, b, 65001, plainOpen())
			} else {
				fails(t, what, b, 65001, 0)
			}
		}
	}
	fails(t, "a byte behind", append(body(2, 0), 0), 65001, 0)
	fails(t, "a parameter behind", append(body(2, 0), 2, 0), 65001, 0)
	parses(t, "the room behind the end counts not", append(body(2, 0), 1, 2, 3)[:12], 65001, plainOpen())
}

// P8.2: parameters and caps that lack their end, and parameters of other kinds.
func TestParseParameters(t *testing.T) {
	for _, x := range []struct {
		what   string
		params []byte
		sub    int
	}{
		{"a kind alone", []byte{2}, 0},
		{"a parameter that lacks its end", []byte{2, 1}, 0},
		{"a parameter that lacks its last byte", []byte{2, 3, 9, 0}, 0},
		{"a parameter that is too long by far", []byte{2, 255, 9, 0}, 0},
		{"a second kind alone", []byte{2, 2, 9, 0, 2}, 0},
		{"a second parameter that lacks its end", []byte{2, 2, 9, 0, 2, 3, 9, 0}, 0},
		{"a code alone", []byte{2, 1, 9}, 0},
		{"a cap that lacks its end", []byte{2, 2, 9, 1}, 0},
		{"a cap that lacks its last byte", []byte{2, 4, 9, 3, 1, 2}, 0},
		{"a second code alone", []byte{2, 3, 9, 0, 9}, 0},
		{"a second cap that lacks its end", []byte{2, 5, 9, 0, 9, 2, 1}, 0},
		{"a cap that goes into the next parameter", []byte{2, 2, 9, 2, 2, 0}, 0},
		{"a cap whose end is the next parameter's", []byte{2, 3, 9, 3, 2, 2, 2, 9, 0}, 0},
		{"another kind", []byte{1, 0}, 4},
		{"another kind, with bytes", []byte{1, 2, 9, 0}, 4},
		{"a second one of another kind", []byte{2, 2, 9, 0, 3, 0}, 4},
		{"a kind of 0", []byte{0, 0}, 4},
		{"a kind of 255", []byte{255, 0}, 4},
		{"noughts", make([]byte, 200), 4},
	} {
		fails(t, x.what, body(x.params...), 65001, x.sub)
	}
	for kind := range 256 {
		if kind != 2 {
			fails(t, fmt.Sprint("kind ", kind), body(byte(kind), 2, 9, 0), 65001, 4)
			fails(t, fmt.Sprint("then kind ", kind), body(2, 2, 9, 0, byte(kind), 2, 9, 0), 65001, 4)
		}
	}
}

// P8.2: of several faults the one that is named first; of parameters the first one's.
func TestParseOrder(t *testing.T) {
	all := []byte{5, 0, 0, 0, 1, 0, 0, 0, 0, 7}
	steps := []struct {
		what string
		sub  int
		mend []byte
		at   int
	}{
		{"version", 1, []byte{4}, 0},
		{"as", 2, []byte{0, 1}, 1},
		{"hold", 6, []byte{0, 3}, 3},
		{"id", 3, []byte{1}, 5},
		{"count", 0, []byte{0}, 9},
	}
	for _, x := range steps {
		fails(t, x.what+" ahead of what follows", all, 1, x.sub)
		copy(all[x.at:], x.mend)
	}
	parses(t, "all mended", all, 1, open.Open{As: 1, Hold: 3, Id: 1 << 24})
	for _, x := range []struct {
		what string
		b    []byte
		sub  int
	}{
		{"that there are too few ahead of all", []byte{5, 0, 0, 0, 1, 0, 0, 0, 0}, 0},
		{"the count ahead of another kind", append(body(1, 0), 0), 0},
		{"the lack of its end ahead of another kind", body(1, 5, 0), 0},
		{"the lack of its end ahead of another kind, alone", body(1), 0},
		{"another kind ahead of its caps", body(1, 1, 9), 4},
		{"the first parameter's kind", body(1, 0, 2, 9), 4},
		{"the first parameter's caps", body(2, 1, 9, 1, 0), 0},
		{"the first parameter's kind, not the second's caps", body(3, 0, 2, 1, 9), 4},
		{"the second parameter's kind, not the third's end", body(2, 0, 3, 0, 2, 7), 4},
	} {
		fails(t, x.what, x.b, 65001, x.sub)
	}
}

// P8.4: Parse of Bytes leads back.
func TestParseOfBytes(t *testing.T) {
	for _, o := range goods() {
		parses(t, fmt.Sprintf("%+v", o), open.Bytes(o), o.As, o)
	}
	r := rand.New(rand.NewSource(1))
	for range 5000 {
		o := open.Open{As: r.Intn(65538), Hold: r.Intn(65538), Id: r.Uint32()}
		for range r.Intn(6) {
			o.Caps = append(o.Caps, open.Cap{Code: r.Intn(256), Value: fill(r.Intn(60))})
		}
		b := open.Bytes(o)
		is(t, "bytes of what is Good", len(b) > 0, open.Good(o))
		if !open.Good(o) {
			continue
		}
		parses(t, "any", b, o.As, o)
		parses(t, "any, of anybody", b, 0, o)
		fails(t, "any, of another", b, o.As+1, 2)
		got, _ := open.Parse(b, o.As)
		is(t, "Same", open.Same(got, o), true)
	}
}

// R3: what is answered shares nothing with what was handed in, nor one list with another.
func TestParseMemory(t *testing.T) {
	whole := append(open.Bytes(full()), 90, 91)
	b := whole[:len(whole)-2]
	was := bytes.Clone(whole)
	o, _ := open.Parse(b, 0)
	for i := range o.Caps {
		spoil(o.Caps[i].Value)
		o.Caps[i].Value = full().Caps[i].Value
		alike(t, "behind a value that was spoilt", o, full())
	}
	clear(o.Caps[:cap(o.Caps)])
	list(t, "what was handed in", whole, was...)

	o, _ = open.Parse(b, 0)
	clear(whole)
	alike(t, "behind bytes that were changed", o, full())

	for range 2 {
		_, f := open.Parse(make([]byte, 10), 0)
		list(t, "data", f.Data, 0, 4)
		spoil(f.Data)
	}
}

// byHand is Parse again, by what the chapter says, straight from the bytes.
func byHand(b []byte, as int) (open.Open, int) {
	if len(b) < 10 {
		return open.Open{}, 0
	}
	o := open.Open{As: int(b[1])*256 + int(b[2]), Hold: int(b[3])*256 + int(b[4])}
	o.Id = uint32(b[5])<<24 | uint32(b[6])<<16 | uint32(b[7])<<8 | uint32(b[8])
	switch {
	case b[0] != 4:
		return open.Open{}, 1
	case o.As == 0 || as >= 1 && o.As != as:
		return open.Open{}, 2
	case o.Hold == 1 || o.Hold == 2:
		return open.Open{}, 6
	case o.Id == 0:
		return open.Open{}, 3
	case len(b) != 10+int(b[9]):
		return open.Open{}, 0
	}
	for b = b[10:]; len(b) > 0; {
		if len(b) < 2 || len(b) < 2+int(b[1]) {
			return open.Open{}, 0
		}
		kind, caps := b[0], b[2:2+int(b[1])]
		if kind != 2 {
			return open.Open{}, 4
		}
		for len(caps) > 0 {
			if len(caps) < 2 || len(caps) < 2+int(caps[1]) {
				return open.Open{}, 0
			}
			o.Caps = append(o.Caps, open.Cap{Code: int(caps[0]), Value: caps[2 : 2+int(caps[1])]})
			caps = caps[2+int(caps[1]):]
		}
		b = b[2+int(b[1]):]
	}
	return o, -1
}

// anyOf: a body most of which may be, and some bytes changed.
func anyOf(r *rand.Rand) []byte {
	var params []byte
	for range r.Intn(4) {
		var caps []byte
		for range r.Intn(4) {
			n := r.Intn(4)
			caps = append(caps, join([]byte{byte(r.Intn(4)), byte(n)}, fill(n))...)
		}
		params = append(params, join([]byte{2, byte(len(caps))}, caps)...)
	}
	b := body(params...)
	for range r.Intn(3) {
		i := r.Intn(len(b))
		if r.Intn(2) == 0 {
			i = r.Intn(10)
		}
		b[i] = []byte{0, 1, 2, 3, 4, byte(r.Intn(256))}[r.Intn(6)]
	}
	if r.Intn(8) == 0 {
		clear(b[5:9])
	}
	if r.Intn(8) == 0 {
		b[3], b[4] = 0, byte(r.Intn(4))
	}
	if r.Intn(16) == 0 {
		b = b[:r.Intn(len(b)+1)]
	}
	return b
}

// P8.2: any bytes, against what is reckoned by hand.
func TestParseAgainstByHand(t *testing.T) {
	r := rand.New(rand.NewSource(2))
	met := map[int]int{}
	for range 60000 {
		b, as := anyOf(r), []int{0, -1, 65001, 65001, 65002}[r.Intn(5)]
		want, sub := byHand(b, as)
		met[sub]++
		if what := fmt.Sprint(b, " of ", as); sub < 0 {
			parses(t, what, b, as, want)
		} else {
			fails(t, what, b, as, sub)
		}
		if t.Failed() {
			return
		}
	}
	for _, sub := range []int{-1, 0, 1, 2, 3, 4, 6} {
		if met[sub] < 100 {
			t.Errorf("sub %d was met %d times only: %v", sub, met[sub], met)
		}
	}
}
