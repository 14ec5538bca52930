package tests

import (
	"encoding/binary"
	"hash/crc32"
	"math"
	"math/rand"
	"reflect"
	"testing"

	"loop.example/s03010/impl"
)

const topOffset = math.MaxUint64

// seal puts the sum behind bytes, by the library's own sum, so that only size and form are left to be refused.
func seal(b []byte) []byte {
	return binary.BigEndian.AppendUint32(append([]byte(nil), b...), crc32.ChecksumIEEE(b))
}

// layDown writes a frame's bytes by the document's table, valid or not.
func layDown(f impl.Frame) []byte {
	b := []byte{0xD5, byte(f.Kind), byte(f.Path), byte(len(f.Payload))}
	b = binary.BigEndian.AppendUint32(b, f.Seq)
	b = binary.BigEndian.AppendUint64(b, f.Offset)
	b = binary.BigEndian.AppendUint16(b, uint16(f.Window))
	return seal(append(b, f.Payload...))
}

// join lays frames down one behind the other.
func join(frames []impl.Frame) []byte {
	var b []byte
	for _, f := range frames {
		b = append(b, layDown(f)...)
	}
	return b
}

// letters is n bytes of which no two neighbours are the same.
func letters(n int) []byte {
	b := make([]byte, n)
	for i := range b {
		b[i] = byte('a' + i%26)
	}
	return b
}

// sameFrame holds two frames against each other; an empty payload and none are the same.
func sameFrame(a, b impl.Frame) bool {
	if string(a.Payload) != string(b.Payload) {
		return false
	}
	a.Payload, b.Payload = nil, nil
	return reflect.DeepEqual(a, b)
}

func sameFrames(a, b []impl.Frame) bool {
	if len(a) != len(b) {
		return false
	}
	for i := range a {
		if !sameFrame(a[i], b[i]) {
			return false
		}
	}
	return true
}

func sameSpans(a, b []impl.Span) bool {
	if len(a) != len(b) {
		return false
	}
	for i := range a {
		if a[i] != b[i] {
			return false
		}
	}
	return true
}

func wantCode(t *testing.T, what string, got, want int64) {
	t.Helper()
	if got != want {
		t.Errorf("%s: code %d, want %d", what, got, want)
	}
}

// edgeFrames are valid frames at the edges that the document names.
func edgeFrames() []impl.Frame {
	return []impl.Frame{
		{Kind: impl.FrameData, Payload: []byte{0}},
		{Kind: impl.FrameData, Path: 7, Seq: math.MaxUint32, Offset: 1 << 40, Payload: letters(32)},
		{Kind: impl.FrameData, Offset: topOffset - 1, Payload: []byte{255}},
		{Kind: impl.FrameData, Offset: topOffset - 32, Payload: letters(32)},
		{Kind: impl.FrameAck},
		{Kind: impl.FrameAck, Path: 2, Seq: 0x01020304, Offset: 0x05060708090A0B0C, Window: 258},
		{Kind: impl.FrameAck, Path: 7, Seq: math.MaxUint32, Offset: topOffset, Window: 65535},
		{Kind: impl.FrameFin},
		{Kind: impl.FrameFin, Path: 3, Seq: 1 << 31, Offset: topOffset},
		{Kind: impl.FrameReset},
		{Kind: impl.FrameReset, Path: 7},
		{Kind: impl.FrameProbe},
		{Kind: impl.FrameProbe, Path: 7, Seq: math.MaxUint32},
	}
}

// someFrame is a valid frame by chance.
func someFrame(r *rand.Rand) impl.Frame {
	f := impl.Frame{Kind: 1 + r.Int63n(5), Path: r.Int63n(8), Seq: r.Uint32(), Offset: r.Uint64()}
	switch f.Kind {
	case impl.FrameData:
		f.Payload = make([]byte, 1+r.Intn(32))
		r.Read(f.Payload)
		f.Offset = min(f.Offset, topOffset-uint64(len(f.Payload)))
	case impl.FrameAck:
		f.Window = r.Int63n(65536)
	case impl.FrameReset:
		f.Seq, f.Offset = 0, 0
	case impl.FrameProbe:
		f.Offset = 0
	}
	return f
}

// region is the memory that a list may reach, its spare room too.
type region struct {
	from, to uintptr
}

// regionsOf finds the memory of all lists in a value.
func regionsOf(v reflect.Value) []region {
	var found []region
	switch v.Kind() {
	case reflect.Struct:
		for i := range v.NumField() {
			found = append(found, regionsOf(v.Field(i))...)
		}
	case reflect.Slice:
		size := uintptr(v.Cap()) * v.Type().Elem().Size()
		if size > 0 {
			found = append(found, region{v.Pointer(), v.Pointer() + size})
		}
		for i := range v.Len() {
			found = append(found, regionsOf(v.Index(i))...)
		}
	}
	return found
}

// wantApart asks that no list of an answer reaches into another one or into an argument.
func wantApart(t *testing.T, what string, answer any, args ...any) {
	t.Helper()
	own := regionsOf(reflect.ValueOf(answer))
	all := own
	for _, a := range args {
		all = append(all, regionsOf(reflect.ValueOf(a))...)
	}
	for i, a := range own {
		for _, b := range all[i+1:] {
			if a.from < b.to && b.from < a.to {
				t.Errorf("%s: two lists share memory", what)
				return
			}
		}
	}
}

// sameValue holds two values against each other; an empty list and none are the same.
func sameValue(a, b any) bool {
	return sameReflected(reflect.ValueOf(a), reflect.ValueOf(b))
}

func sameReflected(a, b reflect.Value) bool {
	switch a.Kind() {
	case reflect.Struct:
		for i := range a.NumField() {
			if !sameReflected(a.Field(i), b.Field(i)) {
				return false
			}
		}
		return true
	case reflect.Slice:
		if a.Len() != b.Len() {
			return false
		}
		for i := range a.Len() {
			if !sameReflected(a.Index(i), b.Index(i)) {
				return false
			}
		}
		return true
	}
	return a.Equal(b)
}
