package impl

import (
	"errors"
	"math"
	"strconv"
)

// Codes, shared by all layers.
const (
	OK         = 0
	ErrForm    = 1
	ErrSize    = 2
	ErrSum     = 3
	ErrRange   = 4
	ErrLimit   = 5
	ErrPath    = 6
	ErrIndex   = 7
	ErrLost    = 8
	ErrFull    = 9
	ErrDead    = 10
	ErrStale   = 11
	ErrFin     = 12
	ErrClosed  = 13
	ErrAborted = 14
	EOF        = 15
	ErrSyntax  = 16
	ErrConfig  = 17
)

const (
	FrameData  = 1
	FrameAck   = 2
	FrameFin   = 3
	FrameReset = 4
	FrameProbe = 5
	Magic      = 0xD5
	HeadSize   = 18
	SumSize    = 4
	MaxPayload = 32
	MaxPaths   = 8
	MaxFrames  = 1000
)

// Frame is one datagram's meaning.
type Frame struct {
	Kind    int64
	Path    int64
	Seq     uint32
	Offset  uint64
	Window  int64
	Payload []byte
}

// headShape is a frame without its payload: a slice would keep == from being asked of it.
type headShape struct {
	kind   int64
	path   int64
	seq    uint32
	offset uint64
	window int64
}

// frameFault is what is wrong with a frame or with its bytes.
type frameFault struct {
	code int64
}

// Error makes a fault a value of error.
func (e frameFault) Error() string {
	return "frame refused with code " + strconv.FormatInt(e.code, 10)
}

// cursor reads fields from the left; it panics with a frameFault where the bytes give out, so that no field needs a check of its own.
type cursor struct {
	rest []byte
}

// take moves behind the next size bytes. What it answers is still the caller's memory.
func (c *cursor) take(size int) []byte {
	if size > len(c.rest) {
		panic(frameFault{ErrSize})
	}
	taken := c.rest[:size]
	c.rest = c.rest[size:]
	return taken
}

// number takes a number of size bytes, the highest first.
func (c *cursor) number(size int) uint64 {
	x := uint64(0)
	for _, b := range c.take(size) {
		x = x<<8 | uint64(b)
	}
	return x
}

// bytes takes size bytes as they stand, into memory of their own.
func (c *cursor) bytes(size int) []byte {
	return append([]byte(nil), c.take(size)...)
}

// Crc32 is the sum at a frame's end.
func Crc32(data []byte) uint32 {
	register := uint32(0xFFFFFFFF)
	for _, b := range data {
		register ^= uint32(b)
		for range 8 {
			if register&1 == 1 {
				register = register>>1 ^ 0xEDB88320
			} else {
				register >>= 1
			}
		}
	}
	return register ^ 0xFFFFFFFF
}

// EncodeFrame lays a frame down.
func EncodeFrame(f Frame) ([]byte, int64) {
	if err := checkFrame(f); err != nil {
		return nil, codeOf(err)
	}
	b := make([]byte, 0, HeadSize+len(f.Payload)+SumSize)
	b = append(b, Magic, byte(f.Kind), byte(f.Path), byte(len(f.Payload)))
	b = appendNumber(b, uint64(f.Seq), 4)
	b = appendNumber(b, f.Offset, 8)
	b = appendNumber(b, uint64(f.Window), 2)
	b = append(b, f.Payload...)
	return appendNumber(b, uint64(Crc32(b)), SumSize), OK
}

// appendNumber lays a number down in its lowest size bytes, the highest of them first.
func appendNumber(b []byte, x uint64, size int) []byte {
	for i := size - 1; i >= 0; i-- {
		b = append(b, byte(x>>(8*i)))
	}
	return b
}

// DecodeFrame reads a frame.
func DecodeFrame(b []byte) (f Frame, code int64) {
	defer func() {
		if err, ok := recover().(error); ok {
			f, code = Frame{}, codeOf(err)
		}
	}()
	read, err := readFrame(b)
	if err != nil {
		return Frame{}, codeOf(err)
	}
	return read, OK
}

// readFrame reads a frame that takes all of b; its cursor panics where b is too short.
func readFrame(b []byte) (Frame, error) {
	c := &cursor{rest: b}
	magic := c.number(1)
	f := Frame{}
	f.Kind = int64(c.number(1))
	f.Path = int64(c.number(1))
	size := int(c.number(1))
	f.Seq = uint32(c.number(4))
	f.Offset = c.number(8)
	f.Window = int64(c.number(2))
	f.Payload = c.bytes(size)
	sum := uint32(c.number(SumSize))
	if len(c.rest) > 0 {
		return Frame{}, frameFault{ErrSize}
	}
	if sum != Crc32(b[:len(b)-SumSize]) {
		return Frame{}, frameFault{ErrSum}
	}
	if magic != Magic {
		return Frame{}, frameFault{ErrForm}
	}
	return f, checkFrame(f)
}

// SplitFrames reads frames that lie one behind the other.
func SplitFrames(b []byte) ([]Frame, int64, int64) {
	var frames []Frame
	taken := 0
	for taken < len(b) {
		rest := b[taken:]
		// The size comes ahead of the limit: promise 3 asks for ErrSize at a short tail behind MaxFrames frames too.
		if !holdsWhole(rest) {
			return frames, int64(taken), ErrSize
		}
		if len(frames) == MaxFrames {
			return frames, int64(taken), ErrLimit
		}
		size := frameSize(rest)
		f, code := DecodeFrame(rest[:size])
		if code != OK {
			return frames, int64(taken), code
		}
		frames = append(frames, f)
		taken += size
	}
	return frames, int64(taken), OK
}

// holdsWhole tells whether b is as long as its first frame says that it is.
func holdsWhole(b []byte) bool {
	return len(b) >= HeadSize+SumSize && len(b) >= frameSize(b)
}

// frameSize is the length of the first frame of b; b has a head.
func frameSize(b []byte) int {
	return HeadSize + int(b[3]) + SumSize
}

// codeOf turns what is wrong with a frame into a code. An error that is no frameFault still refuses the frame.
func codeOf(err error) int64 {
	if err == nil {
		return OK
	}
	var fault frameFault
	if errors.As(err, &fault) {
		return fault.code
	}
	return ErrForm
}

// checkFrame tells what keeps a frame from being valid; nil when nothing does.
func checkFrame(f Frame) error {
	h := headOf(f)
	if !h.inRange() || h != h.cleared() || !payloadFits(f) {
		return frameFault{ErrForm}
	}
	return nil
}

// headOf is the frame without its payload.
func headOf(f Frame) headShape {
	return headShape{kind: f.Kind, path: f.Path, seq: f.Seq, offset: f.Offset, window: f.Window}
}

// inRange looks at the bounds that hold for every kind.
func (h headShape) inRange() bool {
	return h.kind >= FrameData && h.kind <= FrameProbe &&
		h.path >= 0 && h.path < MaxPaths &&
		h.window >= 0 && h.window <= math.MaxUint16
}

// cleared has 0 in each field that its kind must leave 0: a valid head is the same as its cleared one.
func (h headShape) cleared() headShape {
	if h.kind != FrameAck {
		h.window = 0
	}
	if h.kind == FrameReset || h.kind == FrameProbe {
		h.offset = 0
	}
	if h.kind == FrameReset {
		h.seq = 0
	}
	return h
}

// payloadFits looks at the payload and, for data, at where it ends in the stream.
func payloadFits(f Frame) bool {
	size := len(f.Payload)
	if f.Kind != FrameData {
		return size == 0
	}
	// The end is not added up: beyond 2^64 - 1 it would wrap.
	return size >= 1 && size <= MaxPayload && f.Offset <= math.MaxUint64-uint64(size)
}
