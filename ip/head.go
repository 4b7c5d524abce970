package ip

import (
	"fairway/api"
	"fairway/chk"
	"fairway/wire"
)

// Where a head's parts stand that are asked for alone, or written anew. The least head ends where options begin.
const (
	sizeAt    = 2
	ttlAt     = 8
	sumAt     = 10
	dstAt     = 16
	optionsAt = 20
)

// What the first byte of a head has: a version, and how many words of wordSize bytes there are, at most 15.
const (
	version    = 4
	wordSize   = 4
	maxOptions = 15*wordSize - optionsAt
)

// fragBits: how many Frag has of the word that it shares with Flags.
const fragBits = 13

// head is the head of a packet, as its bytes.
type head []byte

// packet is one that cut found right, in its two parts.
type packet struct {
	head    head
	payload []byte
}

// cut: the packet with which b begins. It is b's own bytes.
func cut(b []byte) (packet, api.Errno) {
	if len(b) < optionsAt {
		return packet{}, api.ErrShort
	}
	end := int(b[0]&15) * wordSize
	if b[0]>>4 != version || end < optionsAt {
		return packet{}, api.ErrBad
	}
	size, _ := wire.Get16(b, sizeAt)
	if len(b) < end || len(b) < size {
		return packet{}, api.ErrShort
	}
	if size < end || size > api.MaxPacket {
		return packet{}, api.ErrBad
	}
	p := packet{head: b[:end:end], payload: b[end:size:size]}
	if !chk.Good(p.head) {
		return packet{}, api.ErrSum
	}
	return p, api.OK
}

// write: the head of a packet of so many bytes. The header is Good.
func (h Header) write(size int) head {
	words := (optionsAt + len(h.Options)) / wordSize
	b := wire.Put8(nil, version<<4|words)
	b = wire.Put8(b, h.Tos)
	b = wire.Put16(b, size)
	b = wire.Put16(b, h.Id)
	b = wire.Put16(b, h.Flags<<fragBits|h.Frag)
	b = wire.Put8(b, h.Ttl)
	b = wire.Put8(b, h.Proto)
	b = wire.Put16(b, 0)
	b = wire.Put32(b, h.Src)
	b = wire.Put32(b, h.Dst)
	whole := head(append(b, h.Options...))
	whole.sum()
	return whole
}

// read: what the head says.
func (h head) read() Header {
	s := wire.Read(h)
	s.U8()
	tos := s.U8()
	s.U16()
	id, parts := s.U16(), s.U16()
	ttl, proto := s.U8(), s.U8()
	s.U16()
	src, dst := s.U32(), s.U32()
	return Header{
		Tos: tos, Id: id, Flags: parts >> fragBits, Frag: parts & (1<<fragBits - 1),
		Ttl: ttl, Proto: proto, Src: src, Dst: dst, Options: s.Rest(),
	}
}

// update writes bytes at a place, and the check sum anew.
func (h head) update(at int, with []byte) {
	copy(h[at:], with)
	h.sum()
}

// sum writes the check sum of all bytes. chk's Update would not do: a sum that came as 65535, which is as Good as 0, could stay so.
func (h head) sum() {
	copy(h[sumAt:], wire.Put16(nil, 0))
	copy(h[sumAt:], wire.Put16(nil, chk.Of(h)))
}
