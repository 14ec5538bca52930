package tests

import (
	"fmt"
	"math"
	"math/rand"

	"loop.example/s03010/impl"
)

// injectLine brings bytes to the end of a direction.
func injectLine(p, dir int64, b []byte) string {
	word := "-"
	if len(b) > 0 {
		word = fmt.Sprintf("%x", b)
	}
	return fmt.Sprint("inject ", p, " ", "fb"[dir:dir+1], " ", word)
}

// forge brings a frame to the end of a direction on the frame's own path.
func forge(dir int64, f impl.Frame) string {
	return injectLine(f.Path, dir, layDown(f))
}

func forgeData(p int64, seq uint32, off uint64, data string) string {
	return forge(impl.Forward, impl.Frame{Kind: impl.FrameData, Path: p, Seq: seq, Offset: off, Payload: []byte(data)})
}

func forgeFin(p int64, seq uint32, off uint64) string {
	return forge(impl.Forward, impl.Frame{Kind: impl.FrameFin, Path: p, Seq: seq, Offset: off})
}

func forgeReset(p int64) string {
	return forge(impl.Forward, impl.Frame{Kind: impl.FrameReset, Path: p})
}

func forgeProbe(p int64, seq uint32) string {
	return forge(impl.Forward, impl.Frame{Kind: impl.FrameProbe, Path: p, Seq: seq})
}

func forgeAck(p int64, seq uint32, off uint64, window int64) string {
	return forge(impl.Back, impl.Frame{Kind: impl.FrameAck, Path: p, Seq: seq, Offset: off, Window: window})
}

// noises are bytes that DecodeFrame refuses and that an inject line can have.
func noises() [][]byte {
	data := layDown(impl.Frame{Kind: impl.FrameData, Payload: []byte("a")})
	list := [][]byte{nil, make([]byte, 22), make([]byte, 64), append(data, 0), append([]byte{0}, data...)}
	for n := 1; n < len(data); n++ {
		list = append(list, data[:n])
	}
	wrongMagic := append([]byte(nil), data[:len(data)-4]...)
	wrongMagic[0]++
	list = append(list, seal(wrongMagic))
	for _, f := range brokenFrames() {
		if b := layDown(f); len(b) <= impl.MaxDatagram {
			list = append(list, b)
		}
	}
	return append(list, turnedBits()...)
}

// turnedBits are the frames that a fresh end would take, one bit turned in each.
func turnedBits() [][]byte {
	var list [][]byte
	for _, f := range []impl.Frame{
		{Kind: impl.FrameData, Payload: []byte("a")},
		{Kind: impl.FrameAck, Window: 20},
		{Kind: impl.FrameFin},
		{Kind: impl.FrameReset},
		{Kind: impl.FrameProbe},
	} {
		b := layDown(f)
		for bit := range 8 * len(b) {
			turned := append([]byte(nil), b...)
			turned[bit/8] ^= 1 << (bit % 8)
			list = append(list, turned)
		}
	}
	return list
}

// strangers are valid frames that the end of a direction does not take on path p.
func strangers(p, dir int64) [][]byte {
	var list [][]byte
	for _, f := range []impl.Frame{
		{Kind: impl.FrameData, Payload: []byte("a")},
		{Kind: impl.FrameAck, Window: 20},
		{Kind: impl.FrameFin},
		{Kind: impl.FrameReset},
		{Kind: impl.FrameProbe},
	} {
		for q := range int64(impl.MaxPaths) {
			f.Path = q
			if q != p || (f.Kind == impl.FrameAck) != (dir == impl.Back) {
				list = append(list, layDown(f))
			}
		}
	}
	return list
}

// numberNear is a number of a path by chance: most often one of those from low to high, or just beside them.
func numberNear(r *rand.Rand, low, high uint32) uint32 {
	switch r.Intn(8) {
	case 0:
		return low - 1
	case 1:
		return high + 1
	case 2:
		return low + 1<<31
	case 3:
		return r.Uint32()
	}
	return low + uint32(r.Int63n(int64(high-low)+1))
}

// offsetNear is an offset by chance: one of the places, or just beside it, or far off.
func offsetNear(r *rand.Rand, places ...uint64) uint64 {
	at := places[r.Intn(len(places))]
	switch r.Intn(8) {
	case 0:
		return at + 1
	case 1:
		return at - min(at, 1)
	case 2:
		return []uint64{0, math.MaxUint64 - 32, math.MaxUint64, 1 << 62, 1 << 32, at + 40}[r.Intn(6)]
	}
	return at
}

// forgedAck is an acknowledgement near what the writer knows.
func (s *scriptMaker) forgedAck(p int64) string {
	m := s.model
	v := m.subs[p].view()
	window := []int64{0, 1, s.r.Int63n(40), 65535}[s.r.Intn(4)]
	off := offsetNear(s.r, m.acked, m.mapped, m.mapped, uint64(s.r.Int63n(int64(m.mapped)+1)))
	return forgeAck(p, numberNear(s.r, v.Base, v.Next), off, window)
}

// forgedData is data near what the reader knows; its bytes are none of the stream.
func (s *scriptMaker) forgedData(p int64) string {
	b := s.model.buffer
	data := letters(1 + s.r.Intn(32))
	if s.r.Intn(2) == 0 {
		data = data[:min(len(data), 3)]
	}
	size := uint64(len(data))
	top := b.read + uint64(b.size)
	off := offsetNear(s.r, b.read, b.next(), top, top-min(top, size), b.fin-min(b.fin, size), uint64(s.r.Int63n(int64(top)+1)))
	off = min(off, math.MaxUint64-size)
	return forgeData(p, s.readerNumber(p), off, string(data))
}

func (s *scriptMaker) forgedFin(p int64) string {
	b := s.model.buffer
	top := b.read + uint64(b.size)
	return forgeFin(p, s.readerNumber(p), offsetNear(s.r, b.read, b.next(), top, b.fin, uint64(s.r.Int63n(int64(top)+1))))
}

// readerNumber is most often the one waited for.
func (s *scriptMaker) readerNumber(p int64) uint32 {
	if s.r.Intn(4) == 0 {
		return numberNear(s.r, s.model.waits[p], s.model.waits[p])
	}
	return s.model.waits[p]
}

// replay brings what is in flight anywhere to an end by chance.
func (s *scriptMaker) replay(p int64) string {
	bags := s.model.net.flight()
	bag := bags[s.r.Intn(len(bags))]
	if len(bag.Datagrams) == 0 {
		return "rtick"
	}
	if s.r.Intn(2) == 0 {
		p = bag.Path
	}
	return injectLine(p, s.r.Int63n(2), bag.Datagrams[s.r.Intn(len(bag.Datagrams))])
}

// hostile is an inject line by chance. A forged reset comes only where the stream may end.
func (s *scriptMaker) hostile() string {
	p, dir := s.r.Int63n(s.model.cfg.Paths), s.r.Int63n(2)
	switch n := s.r.Intn(40); {
	case n < 13:
		return s.forgedAck(p)
	case n < 26:
		return s.forgedData(p)
	case n < 30:
		return s.forgedFin(p)
	case n < 32:
		return forgeProbe(p, s.r.Uint32())
	case n < 34:
		list := strangers(p, dir)
		return injectLine(p, dir, list[s.r.Intn(len(list))])
	case n < 36:
		list := noises()
		return injectLine(p, dir, list[s.r.Intn(len(list))])
	case n == 36 && s.ends:
		return forgeReset(p)
	}
	return s.replay(p)
}
