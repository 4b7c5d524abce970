package chk_test

import (
	"bytes"
	"math"
	"math/rand"
	"slices"
	"testing"

	"fairway/chk"
)

// is holds an answer against what it should be.
func is[T comparable](t *testing.T, what string, got, want T) {
	t.Helper()
	if got != want {
		t.Errorf("%s: %v, want %v", what, got, want)
	}
}

// ends are the words at which adding turns.
var ends = []int{0, 1, 2, 255, 256, 257, 0x7fff, 0x8000, 0x8001, 0xff00, 65533, 65534, 65535}

// noWords are numbers that are no words, with the words that count for them.
var noWords = []struct{ n, word int }{
	{65536, 0},
	{65537, 1},
	{0x12345, 0x2345},
	{2*65536 - 1, 65535},
	{1 << 40, 0},
	{1<<40 + 7, 7},
	{math.MaxInt, 65535},
	{math.MaxInt - 1, 65534},
	{-1, 65535},
	{-2, 65534},
	{-65535, 1},
	{-65536, 0},
	{-65537, 65535},
	{math.MinInt, 0},
	{math.MinInt + 3, 3},
}

// plainSum is a sum of words by another way: only words of 0 have 0, all others what is left by 65535, which is 65535 and not 0.
func plainSum(b []byte) int {
	total := 0
	for at, x := range b {
		if at%2 == 0 {
			total += 256 * int(x)
		} else {
			total += int(x)
		}
	}
	if total == 0 {
		return 0
	}
	return (total-1)%65535 + 1
}

// put writes a word at a place.
func put(b []byte, at, n int) { b[at], b[at+1] = byte(n>>8), byte(n) }

// some makes bytes of which many are at the ends.
func some(r *rand.Rand, n int) []byte {
	b := make([]byte, n)
	for i := range b {
		b[i] = []byte{0, 1, 255, byte(r.Intn(256))}[r.Intn(4)]
	}
	return b
}

// P2.1: a sum below 65536 stays, one from there on is 65535 less.
func TestAdd(t *testing.T) {
	for _, x := range []struct{ s, t, want int }{
		{0, 0, 0},
		{0, 1, 1},
		{258, 772, 1030},
		{0, 65535, 65535},
		{1, 65534, 65535},
		{0x8000, 0x7fff, 65535},
		{1, 65535, 1},
		{2, 65534, 1},
		{0x8000, 0x8000, 1},
		{65534, 65535, 65534},
		{65535, 65535, 65535},
	} {
		is(t, "Add", chk.Add(x.s, x.t), x.want)
		is(t, "Add the other way", chk.Add(x.t, x.s), x.want)
	}
}

// P2.1: every two words at the ends, by the chapter's own words.
func TestAddAtTheEnds(t *testing.T) {
	for _, s := range ends {
		for _, u := range ends {
			want := s + u
			if want >= 65536 {
				want -= 65535
			}
			is(t, "Add", chk.Add(s, u), want)
		}
	}
}

// P2.1: of a number that is no word its lowest 16 bits count, on either side.
func TestAddNoWords(t *testing.T) {
	for _, x := range noWords {
		for _, w := range ends {
			want := chk.Add(x.word, w)
			is(t, "Add of no word", chk.Add(x.n, w), want)
			is(t, "Add to a word of none", chk.Add(w, x.n), want)
		}
		for _, y := range noWords {
			is(t, "Add of two that are none", chk.Add(x.n, y.n), chk.Add(x.word, y.word))
		}
	}
	is(t, "Add of -1 and 1", chk.Add(-1, 1), 1)
	is(t, "Add of the least ones", chk.Add(math.MinInt, math.MinInt), 0)
	is(t, "Add of the greatest ones", chk.Add(math.MaxInt, math.MaxInt), 65535)
}

// P2.1: words go the greatest byte first, and an odd last one counts 256 times.
func TestSum(t *testing.T) {
	for _, x := range []struct {
		b    []byte
		want int
	}{
		{nil, 0},
		{[]byte{}, 0},
		{make([]byte, 0, 4), 0},
		{[]byte{0}, 0},
		{[]byte{0, 0, 0}, 0},
		{[]byte{1}, 256},
		{[]byte{255}, 65280},
		{[]byte{0, 1}, 1},
		{[]byte{1, 2}, 258},
		{[]byte{1, 2, 3}, 258 + 768},
		{[]byte{1, 2, 3, 4}, 258 + 772},
		{[]byte{255, 255}, 65535},
		{[]byte{255, 254, 0, 1}, 65535},
		{[]byte{255, 255, 0, 1}, 1},
		{[]byte{255, 255, 1}, 256},
		{[]byte{255, 255, 255, 255}, 65535},
		{[]byte{255, 255, 0, 0}, 65535},
		{[]byte{0, 1, 0xf2, 3, 0xf4, 0xf5, 0xf6, 0xf7}, 0xddf2}, // RFC 1071's example
	} {
		is(t, "Sum", chk.Sum(x.b), x.want)
	}
}

// P2.1: many bytes, even and odd ones, also so many that they come round often.
func TestSumAgainstPlain(t *testing.T) {
	r := rand.New(rand.NewSource(2))
	for n := range 300 {
		b := some(r, n)
		is(t, "Sum", chk.Sum(b), plainSum(b))
	}
	for _, n := range []int{9000, 8999, 1 << 18, 1<<18 + 1} {
		full := bytes.Repeat([]byte{255}, n)
		is(t, "Sum of the greatest bytes", chk.Sum(full), plainSum(full))
		b := some(r, n)
		is(t, "Sum of many", chk.Sum(b), plainSum(b))
	}
}

// P2.1: Of is what lacks to 65535.
func TestOf(t *testing.T) {
	is(t, "Of the example", chk.Of([]byte{1, 2, 3, 4}), 64505)
	is(t, "Of none", chk.Of(nil), 65535)
	is(t, "Of a sum of 0", chk.Of([]byte{0, 0, 0}), 65535)
	is(t, "Of a sum of 65535", chk.Of([]byte{255, 254, 0, 1}), 0)
	is(t, "Of an odd last byte", chk.Of([]byte{1}), 65535-256)
	r := rand.New(rand.NewSource(3))
	for n := range 100 {
		b := some(r, n)
		is(t, "Of", chk.Of(b), 65535-plainSum(b))
	}
}

// header is an IPv4 one that is known, with its check sum b861 at 10.
var header = []byte{0x45, 0, 0, 0x73, 0, 0, 0x40, 0, 0x40, 0x11, 0xb8, 0x61, 0xc0, 0xa8, 0, 1, 0xc0, 0xa8, 0, 0xc7}

// P2.1: only a sum of 65535 is Good: neither 0, nor one beside it.
func TestGood(t *testing.T) {
	is(t, "Good of a header", chk.Good(header), true)
	bare := bytes.Clone(header)
	put(bare, 10, 0)
	is(t, "Of a header", chk.Of(bare), 0xb861)
	for _, x := range []struct {
		b    []byte
		want bool
	}{
		{[]byte{255, 255}, true},
		{[]byte{0, 1, 255, 254}, true},
		{[]byte{255, 255, 255, 255}, true},
		{[]byte{0, 255, 255}, true},
		{nil, false},
		{[]byte{}, false},
		{[]byte{0, 0}, false},
		{[]byte{255, 254}, false},
		{[]byte{255, 255, 0, 1}, false},
		{[]byte{255}, false},
		{[]byte{255, 255, 255}, false},
	} {
		is(t, "Good", chk.Good(x.b), x.want)
	}
}

// P2.1: a header with any one bit turned is Good no more.
func TestGoodFindsTurnedBits(t *testing.T) {
	for i := range header {
		for bit := range 8 {
			b := bytes.Clone(header)
			b[i] ^= 1 << bit
			is(t, "Good of a turned bit", chk.Good(b), false)
		}
	}
}

// P2.2: the example, one word more, one less, and the same word.
func TestUpdate(t *testing.T) {
	is(t, "Update of the example", chk.Update(64505, 258, 259), 64504)
	is(t, "Update to one less", chk.Update(64505, 258, 257), 64506)
	is(t, "Update to the same", chk.Update(64505, 258, 258), 64505)
	is(t, "Update of a Ttl", chk.Update(0xb861, 0x4011, 0x3f11), 0xb961)
}

// P2.2: what RFC 1624 shows: a sum of 0 comes out as 0, not as 65535, where any word is left.
func TestUpdateToZero(t *testing.T) {
	is(t, "Update", chk.Update(0xdd2f, 0x5555, 0x3285), 0)
	is(t, "Update of a sum of 0", chk.Update(0, 0x3285, 0x5555), 0xdd2f)
}

// P2.2: by the chapter's own reckoning, at all ends.
func TestUpdateAtTheEnds(t *testing.T) {
	for _, sum := range ends {
		for _, from := range ends {
			for _, to := range ends {
				want := 65535 - chk.Add(chk.Add(65535-sum, 65535-from), to)
				is(t, "Update", chk.Update(sum, from, to), want)
			}
		}
	}
	// Of bytes of which no word is left but 0 the reckoning tells 0, though their Of is 65535.
	is(t, "Update of words of 0", chk.Update(65535, 0, 0), 0)
	is(t, "Update to words of 0", chk.Update(65535-7, 7, 0), 0)
}

// P2.2: it tells the Of of the changed bytes, while a word is left that is not 0.
func TestUpdateIsOf(t *testing.T) {
	r := rand.New(rand.NewSource(4))
	for range 5000 {
		b := some(r, 2+r.Intn(30))
		at := 2 * r.Intn(len(b)/2)
		from, to := int(b[at])<<8|int(b[at+1]), ends[r.Intn(len(ends))]
		sum := chk.Of(b)
		put(b, at, to)
		want := chk.Of(b)
		if plainSum(b) == 0 {
			want = 0
		}
		is(t, "Update", chk.Update(sum, from, to), want)
	}
}

// P2.2: of numbers that are no words the lowest 16 bits count, in each place.
func TestUpdateNoWords(t *testing.T) {
	for _, x := range noWords {
		for _, w := range ends {
			is(t, "Update of no word's sum", chk.Update(x.n, w, 258), chk.Update(x.word, w, 258))
			is(t, "Update from no word", chk.Update(w, x.n, 258), chk.Update(w, x.word, 258))
			is(t, "Update to no word", chk.Update(w, 258, x.n), chk.Update(w, 258, x.word))
		}
		is(t, "Update of none", chk.Update(x.n, x.n, x.n), chk.Update(x.word, x.word, x.word))
	}
}

// plainPseudo is the chapter's twelve bytes.
func plainPseudo(src, dst uint32, proto, n int) int {
	return plainSum([]byte{
		byte(src >> 24), byte(src >> 16), byte(src >> 8), byte(src),
		byte(dst >> 24), byte(dst >> 16), byte(dst >> 8), byte(dst),
		0, byte(proto), byte(n >> 8), byte(n),
	})
}

// P2.2: each part of the twelve bytes has its place.
func TestPseudo(t *testing.T) {
	is(t, "Pseudo of the example", chk.Pseudo(1, 2, 17, 8), 28)
	is(t, "Pseudo of nothing", chk.Pseudo(0, 0, 0, 0), 0)
	is(t, "src", chk.Pseudo(0x01020304, 0, 0, 0), 0x0102+0x0304)
	is(t, "dst", chk.Pseudo(0, 0x05060708, 0, 0), 0x0506+0x0708)
	is(t, "proto", chk.Pseudo(0, 0, 6, 0), 6)
	is(t, "n", chk.Pseudo(0, 0, 0, 0x1234), 0x1234)
	is(t, "all", chk.Pseudo(0xc0a80001, 0xc0a800c7, 17, 95), 0x8289)
	is(t, "the greatest", chk.Pseudo(math.MaxUint32, math.MaxUint32, 255, 65535), 255)
}

// P2.2: of proto the lowest eight bits count, of n the lowest 16.
func TestPseudoLowestBits(t *testing.T) {
	is(t, "proto of 256", chk.Pseudo(0, 0, 256, 0), 0)
	is(t, "proto of 0x3ff", chk.Pseudo(0, 0, 0x3ff, 0), 255)
	is(t, "proto of -1", chk.Pseudo(0, 0, -1, 0), 255)
	is(t, "proto of the least", chk.Pseudo(0, 0, math.MinInt, 0), 0)
	is(t, "proto of the greatest", chk.Pseudo(0, 0, math.MaxInt, 0), 255)
	for _, x := range noWords {
		is(t, "n of no word", chk.Pseudo(0, 0, 0, x.n), x.word)
		is(t, "all with no words", chk.Pseudo(0x80ff01fe, 0xfffefdfc, x.n, x.n),
			plainPseudo(0x80ff01fe, 0xfffefdfc, x.n, x.n))
	}
}

// P2.2: any numbers, against the twelve bytes.
func TestPseudoAgainstPlain(t *testing.T) {
	r := rand.New(rand.NewSource(5))
	for range 2000 {
		src, dst, proto, n := r.Uint32(), r.Uint32(), int(r.Uint64()), int(r.Uint64())
		is(t, "Pseudo", chk.Pseudo(src, dst, proto, n), plainPseudo(src, dst, proto, n))
	}
}

// P2.3: bytes with their Of in a word that was 0 are Good, whichever word it is, and whatever stands around.
func TestOfMakesGood(t *testing.T) {
	r := rand.New(rand.NewSource(6))
	for n := 2; n < 60; n++ {
		for at := 0; at+1 < n; at += 2 {
			b := some(r, n)
			put(b, at, 0)
			put(b, at, chk.Of(b))
			is(t, "Good", chk.Good(b), true)
		}
		zeros := make([]byte, n)
		put(zeros, 0, chk.Of(zeros))
		is(t, "Good of zeros", chk.Good(zeros), true)
	}
}

// P2.3: a part's sum and the sum of what stands ahead of it, as of a UDP packet with its pseudo header.
func TestPseudoMakesGood(t *testing.T) {
	udp := []byte{0x30, 0x39, 0, 53, 0, 11, 0, 0, 'a', 'b', 'c'}
	sum := 65535 - chk.Add(chk.Pseudo(0xc0a80001, 0xc0a800c7, 17, len(udp)), chk.Sum(udp))
	put(udp, 6, sum)
	is(t, "Add", chk.Add(chk.Pseudo(0xc0a80001, 0xc0a800c7, 17, len(udp)), chk.Sum(udp)), 65535)
}

// P2.3: words in another order have the same Sum; bytes in another order need not.
func TestSumOfAnotherOrder(t *testing.T) {
	r := rand.New(rand.NewSource(7))
	for range 500 {
		b := some(r, 2*r.Intn(20))
		pairs := slices.Collect(slices.Chunk(bytes.Clone(b), 2))
		r.Shuffle(len(pairs), func(i, j int) { pairs[i], pairs[j] = pairs[j], pairs[i] })
		is(t, "Sum of another order", chk.Sum(slices.Concat(pairs...)), chk.Sum(b))
	}
	is(t, "Sum of bytes the other way", chk.Sum([]byte{2, 1}) == chk.Sum([]byte{1, 2}), false)
}

// R3: what is handed in stays, and what lies in the room behind its end counts not.
func TestMemory(t *testing.T) {
	room := []byte{1, 2, 3, 4, 5, 6}
	is(t, "Sum", chk.Sum(room[:3]), 258+768)
	is(t, "Of", chk.Of(room[:3]), 65535-258-768)
	is(t, "Good", chk.Good([]byte{255, 255, 0, 1}[:2]), true)
	if !bytes.Equal(room, []byte{1, 2, 3, 4, 5, 6}) {
		t.Errorf("what was handed in: %v", room)
	}
}
