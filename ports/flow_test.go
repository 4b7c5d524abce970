package ports_test

import (
	"fmt"
	"math"
	"math/rand"
	"testing"

	"fairway/api"
	"fairway/ports"
)

// P5.2: protocols with ports, and ports from 0 to 65535.
func TestGood(t *testing.T) {
	is(t, "nothing", ports.Good(api.Flow{}), false)
	for _, proto := range []int{6, 17} {
		is(t, "the least", ports.Good(api.Flow{Proto: proto}), true)
		is(t, "the greatest", ports.Good(api.Flow{Proto: proto, Src: math.MaxUint32, Dst: math.MaxUint32, Sport: 65535, Dport: 65535}), true)
		f := one
		f.Proto = proto
		for _, port := range []int{0, 1, 255, 256, 32767, 32768, 65534, 65535} {
			f.Sport, f.Dport = port, 65535-port
			is(t, fmt.Sprint("ports ", port, " and ", 65535-port), ports.Good(f), true)
		}
		for _, port := range noPorts {
			f.Sport, f.Dport = port, 1
			is(t, fmt.Sprint("source port ", port), ports.Good(f), false)
			f.Sport, f.Dport = 1, port
			is(t, fmt.Sprint("destination port ", port), ports.Good(f), false)
			f.Sport, f.Dport = port, port
			is(t, fmt.Sprint("both ports ", port), ports.Good(f), false)
		}
	}
	for _, proto := range noProtos {
		f := one
		f.Proto = proto
		is(t, fmt.Sprint("protocol ", proto), ports.Good(f), false)
	}
}

// P5.3: the parts, in their order.
func TestBytes(t *testing.T) {
	list(t, "one", ports.Bytes(one), 6, 0xc0, 0xa8, 0, 1, 0x0a, 0x0b, 0x0c, 0x0d, 0x12, 0x34, 0x01, 0xbb)
	list(t, "nothing", ports.Bytes(api.Flow{}), make([]byte, 13)...)
	for _, x := range []struct {
		f     api.Flow
		at    int
		bytes []byte
	}{
		{api.Flow{Proto: 255}, 0, []byte{255}},
		{api.Flow{Src: 0xfffefdfc}, 1, []byte{255, 254, 253, 252}},
		{api.Flow{Dst: 0xfffefdfc}, 5, []byte{255, 254, 253, 252}},
		{api.Flow{Sport: 0xfffe}, 9, []byte{255, 254}},
		{api.Flow{Dport: 0xfffe}, 11, []byte{255, 254}},
	} {
		want := make([]byte, 13)
		copy(want[x.at:], x.bytes)
		list(t, fmt.Sprint(x.f), ports.Bytes(x.f), want...)
	}
}

// P5.3: of a flow that is not Good the lowest bytes count.
func TestBytesNotGood(t *testing.T) {
	for _, x := range []struct {
		n    int
		high byte
		low  byte
	}{
		{256, 1, 0},
		{0x1234567, 0x45, 0x67},
		{65536, 0, 0},
		{1<<32 + 258, 1, 2},
		{-1, 255, 255},
		{-256, 255, 0},
		{math.MaxInt, 255, 255},
		{math.MinInt, 0, 0},
		{math.MinInt + 259, 1, 3},
	} {
		f := api.Flow{Proto: x.n, Src: 1, Dst: 2, Sport: x.n, Dport: x.n}
		list(t, fmt.Sprint("numbers of ", x.n), ports.Bytes(f), x.low, 0, 0, 0, 1, 0, 0, 0, 2, x.high, x.low, x.high, x.low)
	}
}

// P5.3: source and destination changed, also of a flow that is not Good.
func TestBack(t *testing.T) {
	is(t, "one", ports.Back(one), api.Flow{Proto: 6, Src: 0x0a0b0c0d, Dst: 0xc0a80001, Sport: 443, Dport: 0x1234})
	is(t, "nothing", ports.Back(api.Flow{}), api.Flow{})
	is(t, "not Good", ports.Back(api.Flow{Proto: -5, Src: 1, Dst: 2, Sport: math.MinInt, Dport: math.MaxInt}),
		api.Flow{Proto: -5, Src: 2, Dst: 1, Sport: math.MaxInt, Dport: math.MinInt})
}

// P5.4: Back of Back is the flow.
func TestBackOfBack(t *testing.T) {
	r := rand.New(rand.NewSource(54))
	for range 5000 {
		f := someFlow(r)
		if r.Intn(4) == 0 {
			f.Sport = noPorts[r.Intn(len(noPorts))]
		}
		back := ports.Back(f)
		is(t, "Back", back, api.Flow{Proto: f.Proto, Src: f.Dst, Dst: f.Src, Sport: f.Dport, Dport: f.Sport})
		is(t, "Back of Back", ports.Back(back), f)
		is(t, "Good of Back", ports.Good(back), ports.Good(f))
	}
}

// P5.3: addresses by prefix's Addr, numbers in digits, also of a flow that is not Good.
func TestText(t *testing.T) {
	for _, x := range []struct {
		f    api.Flow
		want string
	}{
		{one, "192.168.0.1:4660>10.11.12.13:443/6"},
		{api.Flow{Proto: 6, Src: 1, Dst: 2, Sport: 3, Dport: 4}, "0.0.0.1:3>0.0.0.2:4/6"},
		{api.Flow{}, "0.0.0.0:0>0.0.0.0:0/0"},
		{api.Flow{Proto: 17, Src: math.MaxUint32, Dst: 1 << 31, Sport: 65535, Dport: 65535}, "255.255.255.255:65535>128.0.0.0:65535/17"},
		{api.Flow{Proto: -1, Src: 10 << 24, Sport: -2, Dport: 65536}, "10.0.0.0:-2>0.0.0.0:65536/-1"},
		{api.Flow{Proto: math.MinInt, Sport: math.MaxInt, Dport: math.MinInt}, "0.0.0.0:9223372036854775807>0.0.0.0:-9223372036854775808/-9223372036854775808"},
	} {
		is(t, "Text", ports.Text(x.f), x.want)
	}
}
