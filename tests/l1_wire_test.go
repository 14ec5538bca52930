package tests

import (
	"bytes"
	"fmt"
	"hash/crc32"
	"math/rand"
	"reflect"
	"testing"

	"loop.example/s03010/impl"
)

func TestCodes(t *testing.T) {
	got := []int64{impl.OK, impl.ErrForm, impl.ErrSize, impl.ErrSum, impl.ErrRange, impl.ErrLimit, impl.ErrPath, impl.ErrIndex, impl.ErrLost,
		impl.ErrFull, impl.ErrDead, impl.ErrStale, impl.ErrFin, impl.ErrClosed, impl.ErrAborted, impl.EOF, impl.ErrSyntax, impl.ErrConfig}
	for i, c := range got {
		if c != int64(i) {
			t.Errorf("code %d of the table is %d", i, c)
		}
	}
}

func TestCrc32(t *testing.T) {
	if impl.Crc32([]byte("123456789")) != 0xCBF43926 {
		t.Error("the sum of nine digits")
	}
	if impl.Crc32(nil) != 0 || impl.Crc32([]byte{}) != 0 {
		t.Error("the sum of nothing")
	}
	r := rand.New(rand.NewSource(1))
	for n := range 300 {
		b := make([]byte, n)
		r.Read(b)
		if impl.Crc32(b) != crc32.ChecksumIEEE(b) {
			t.Fatalf("the sum of %x", b)
		}
	}
}

// Promise 1, from frames to bytes and back.
func TestFramesComeBack(t *testing.T) {
	frames := edgeFrames()
	r := rand.New(rand.NewSource(2))
	for range 3000 {
		frames = append(frames, someFrame(r))
	}
	for _, f := range frames {
		b, code := impl.EncodeFrame(f)
		if code != impl.OK || !bytes.Equal(b, layDown(f)) {
			t.Fatalf("%v: bytes %x, code %d", f, b, code)
		}
		if len(b) < 22 || len(b) > 54 || len(b) != 22+len(f.Payload) {
			t.Fatalf("%v: %d bytes", f, len(b))
		}
		back, code := impl.DecodeFrame(b)
		if code != impl.OK || !sameFrame(back, f) {
			t.Fatalf("%v came back as %v, code %d", f, back, code)
		}
	}
}

// Promise 1, from bytes to frames and back: sealed heads of small and odd fields, most of them no frame.
func TestBytesComeBack(t *testing.T) {
	r := rand.New(rand.NewSource(3))
	taken := 0
	for range 20000 {
		head := make([]byte, 18)
		head[0] = 0xD5 ^ byte(r.Intn(16)/15)
		head[1] = byte(r.Intn(7))
		head[2] = byte(r.Intn(10))
		head[3] = byte(r.Intn(2) * r.Intn(40))
		for i := 4; i < 18; i++ {
			if r.Intn(40) == 0 {
				head[i] = byte(r.Intn(256))
			}
		}
		body := make([]byte, head[3])
		r.Read(body)
		b := seal(append(head, body...))
		f, code := impl.DecodeFrame(b)
		if code == impl.OK {
			taken++
			back, code := impl.EncodeFrame(f)
			if code != impl.OK || !bytes.Equal(back, b) {
				t.Fatalf("%x came back as %x, code %d", b, back, code)
			}
			continue
		}
		wantCode(t, fmt.Sprintf("%x", b), code, impl.ErrForm)
		if !reflect.DeepEqual(f, impl.Frame{}) {
			t.Fatalf("%x is refused, but answers %v", b, f)
		}
	}
	if taken < 1000 {
		t.Errorf("only %d heads were frames", taken)
	}
}

// Promise 2.
func TestOneBitTurned(t *testing.T) {
	frames := edgeFrames()
	r := rand.New(rand.NewSource(4))
	for range 200 {
		frames = append(frames, someFrame(r))
	}
	for _, f := range frames {
		b := layDown(f)
		for bit := range 8 * len(b) {
			b[bit/8] ^= 1 << (bit % 8)
			got, code := impl.DecodeFrame(b)
			want := int64(impl.ErrSum)
			if bit/8 == 3 {
				want = impl.ErrSize
			}
			if code != want || !reflect.DeepEqual(got, impl.Frame{}) {
				t.Fatalf("%v with bit %d turned: %v, code %d", f, bit, got, code)
			}
			b[bit/8] ^= 1 << (bit % 8)
		}
	}
}

// brokenFrames are frames that break one rule each and can be laid down as bytes all the same.
func brokenFrames() []impl.Frame {
	frames := []impl.Frame{
		{},
		{Kind: 6},
		{Kind: 255},
		{Kind: impl.FrameAck, Path: 8},
		{Kind: impl.FrameAck, Path: 255},
		{Kind: impl.FrameData, Path: 8, Payload: []byte{1}},
		{Kind: impl.FrameData},
		{Kind: impl.FrameData, Payload: letters(33)},
		{Kind: impl.FrameData, Payload: letters(255)},
		{Kind: impl.FrameData, Payload: []byte{1}, Window: 1},
		{Kind: impl.FrameData, Payload: []byte{1}, Offset: topOffset},
		{Kind: impl.FrameData, Payload: letters(32), Offset: topOffset - 31},
		{Kind: impl.FrameFin, Window: 1},
		{Kind: impl.FrameReset, Window: 65535},
		{Kind: impl.FrameProbe, Window: 256},
		{Kind: impl.FrameReset, Seq: 1},
		{Kind: impl.FrameReset, Seq: 1 << 31},
		{Kind: impl.FrameReset, Offset: 1},
		{Kind: impl.FrameProbe, Offset: 1},
		{Kind: impl.FrameProbe, Offset: 1 << 63},
	}
	for kind := int64(impl.FrameAck); kind <= impl.FrameProbe; kind++ {
		frames = append(frames, impl.Frame{Kind: kind, Payload: []byte{0}})
	}
	return frames
}

func TestEncodeRefuses(t *testing.T) {
	frames := append(brokenFrames(),
		impl.Frame{Kind: -1},
		impl.Frame{Kind: 257, Payload: []byte{1}},
		impl.Frame{Kind: -1 << 63},
		impl.Frame{Kind: impl.FrameAck, Path: -1},
		impl.Frame{Kind: impl.FrameAck, Path: 256},
		impl.Frame{Kind: impl.FrameAck, Path: -1 << 63},
		impl.Frame{Kind: impl.FrameAck, Window: -1},
		impl.Frame{Kind: impl.FrameAck, Window: 65536},
		impl.Frame{Kind: impl.FrameAck, Window: 1<<63 - 1},
		impl.Frame{Kind: impl.FrameFin, Window: -1},
		impl.Frame{Kind: impl.FrameData, Payload: letters(257)},
		impl.Frame{Kind: impl.FrameData, Payload: letters(100000)},
	)
	for _, f := range frames {
		b, code := impl.EncodeFrame(f)
		if code != impl.ErrForm || len(b) != 0 {
			t.Errorf("%v: bytes %x, code %d", f, b, code)
		}
	}
}

func TestDecodeForm(t *testing.T) {
	for _, f := range brokenFrames() {
		got, code := impl.DecodeFrame(layDown(f))
		if code != impl.ErrForm || !reflect.DeepEqual(got, impl.Frame{}) {
			t.Errorf("%v: %v, code %d", f, got, code)
		}
	}
	good := layDown(impl.Frame{Kind: impl.FrameAck, Seq: 9})
	for _, magic := range []byte{0, 0xD4, 0x55, 0xFF} {
		bad := append([]byte{magic}, good[1:18]...)
		_, code := impl.DecodeFrame(seal(bad))
		wantCode(t, fmt.Sprintf("magic %x", magic), code, impl.ErrForm)
	}
}

func TestDecodeSize(t *testing.T) {
	for _, f := range edgeFrames() {
		b := layDown(f)
		for n := range len(b) {
			got, code := impl.DecodeFrame(b[:n])
			if code != impl.ErrSize || !reflect.DeepEqual(got, impl.Frame{}) {
				t.Fatalf("%d bytes of %v: %v, code %d", n, f, got, code)
			}
		}
		for n := 1; n < 60; n++ {
			_, code := impl.DecodeFrame(append(append([]byte(nil), b...), make([]byte, n)...))
			wantCode(t, fmt.Sprintf("%v and %d bytes", f, n), code, impl.ErrSize)
		}
	}
	_, code := impl.DecodeFrame(nil)
	wantCode(t, "nothing", code, impl.ErrSize)
}

// The order of the errors: each wrong thing hides those that come behind it.
func TestDecodeOrder(t *testing.T) {
	wrongForm := make([]byte, 18)
	for _, r := range []struct {
		what string
		b    []byte
		want int64
	}{
		{"a wrong form under a right sum", seal(wrongForm), impl.ErrForm},
		{"a wrong form under a wrong sum", append(append([]byte(nil), wrongForm...), 1, 2, 3, 4), impl.ErrSum},
		{"a wrong form under a right sum, one byte too long", seal(make([]byte, 19)), impl.ErrSize},
		{"a wrong form under a right sum, one byte too short", seal(make([]byte, 17)), impl.ErrSize},
		{"byte 3 too great under a right sum", seal([]byte{0xD5, 2, 0, 1, 0, 0, 0, 0, 0, 0, 0, 0, 0, 0, 0, 0, 0, 0}), impl.ErrSize},
		{"a wrong sum, one byte too long", append(layDown(impl.Frame{Kind: impl.FrameAck}), 7), impl.ErrSize},
	} {
		got, code := impl.DecodeFrame(r.b)
		if code != r.want || !reflect.DeepEqual(got, impl.Frame{}) {
			t.Errorf("%s: %v, code %d, want %d", r.what, got, code, r.want)
		}
	}
	right := layDown(impl.Frame{Kind: impl.FrameData, Payload: letters(255)})
	_, code := impl.DecodeFrame(right)
	wantCode(t, "255 bytes of payload", code, impl.ErrForm)
	right[40]++
	_, code = impl.DecodeFrame(right)
	wantCode(t, "255 bytes of payload under a wrong sum", code, impl.ErrSum)
}

// wantSplit asks for all three answers of SplitFrames.
func wantSplit(t *testing.T, what string, b []byte, frames []impl.Frame, want int64) {
	t.Helper()
	got, size, code := impl.SplitFrames(b)
	if code != want || size != int64(len(join(frames))) || !sameFrames(got, frames) {
		t.Errorf("%s: %d frames, %d bytes, code %d; want %d frames, %d bytes, code %d", what, len(got), size, code, len(frames), len(join(frames)), want)
	}
}

// Promise 3.
func TestSplitFrames(t *testing.T) {
	r := rand.New(rand.NewSource(5))
	frames := edgeFrames()
	for len(frames) < impl.MaxFrames {
		frames = append(frames, someFrame(r))
	}
	wantSplit(t, "nil", nil, nil, impl.OK)
	wantSplit(t, "nothing", []byte{}, nil, impl.OK)
	for _, n := range []int{1, 2, 13, 100, 999, 1000} {
		b := join(frames[:n])
		wantSplit(t, fmt.Sprintf("%d frames", n), b, frames[:n], impl.OK)
	}
	next := layDown(impl.Frame{Kind: impl.FrameData, Payload: letters(32)})
	for _, n := range []int{0, 1, 7, 999, 1000} {
		b := join(frames[:n])
		for tail := 1; tail < 22; tail++ {
			wantSplit(t, fmt.Sprintf("%d frames and %d bytes", n, tail), append(b[:len(b):len(b)], next[:tail]...), frames[:n], impl.ErrSize)
		}
	}
}

func TestSplitTails(t *testing.T) {
	frames := edgeFrames()[:4]
	b := join(frames)
	next := layDown(impl.Frame{Kind: impl.FrameData, Payload: letters(32)})
	for tail := 22; tail < 54; tail++ {
		wantSplit(t, "a frame cut short", append(b[:len(b):len(b)], next[:tail]...), frames, impl.ErrSize)
	}
	wrongSum := append([]byte(nil), next...)
	wrongSum[20] ^= 1
	wrongForm := layDown(impl.Frame{Kind: impl.FrameProbe, Window: 1})
	for _, r := range []struct {
		what string
		bad  []byte
		want int64
	}{
		{"a wrong sum", wrongSum, impl.ErrSum},
		{"a wrong form", wrongForm, impl.ErrForm},
		{"zeros", make([]byte, 22), impl.ErrSum},
		{"too long a payload", layDown(impl.Frame{Kind: impl.FrameData, Payload: letters(33)}), impl.ErrForm},
	} {
		wantSplit(t, r.what+" first", r.bad, nil, r.want)
		wantSplit(t, r.what+" last", append(b[:len(b):len(b)], r.bad...), frames, r.want)
		wantSplit(t, r.what+" between", append(append(b[:len(b):len(b)], r.bad...), b...), frames, r.want)
	}
}

func TestSplitLimit(t *testing.T) {
	frames := make([]impl.Frame, impl.MaxFrames)
	for i := range frames {
		frames[i] = impl.Frame{Kind: impl.FrameProbe, Path: int64(i % 8), Seq: uint32(i)}
	}
	b := join(frames)
	wantSplit(t, "MaxFrames", b, frames, impl.OK)
	probe := layDown(frames[0])
	wantSplit(t, "MaxFrames and one", append(b[:len(b):len(b)], probe...), frames, impl.ErrLimit)
	wantSplit(t, "MaxFrames and many", append(b[:len(b):len(b)], b...), frames, impl.ErrLimit)
	wantSplit(t, "MaxFrames and one that is refused", append(b[:len(b):len(b)], make([]byte, 22)...), frames, impl.ErrLimit)
	wantSplit(t, "MaxFrames and less than a frame", append(b[:len(b):len(b)], probe[:5]...), frames, impl.ErrSize)
	wantSplit(t, "MaxFrames - 1 and one that is refused", append(b[:len(b)-22:len(b)-22], make([]byte, 22)...), frames[:999], impl.ErrSum)
}

// No call panics: bytes by chance, some of them sealed.
func TestWireTakesAnything(t *testing.T) {
	r := rand.New(rand.NewSource(6))
	for range 5000 {
		b := make([]byte, r.Intn(80))
		r.Read(b)
		if len(b) > 3 {
			b[3] = byte(r.Intn(40))
		}
		_, code := impl.DecodeFrame(b)
		_, size, code2 := impl.SplitFrames(b)
		if code == impl.OK || code2 == impl.OK && len(b) > 0 || size != 0 {
			t.Fatalf("%x: codes %d %d", b, code, code2)
		}
		_, code = impl.DecodeFrame(seal(b))
		if code != impl.ErrSize && code != impl.ErrForm {
			t.Fatalf("%x sealed: code %d", b, code)
		}
	}
}

func TestWireKeepsMemoryApart(t *testing.T) {
	f := impl.Frame{Kind: impl.FrameData, Seq: 5, Payload: letters(32)}
	b, _ := impl.EncodeFrame(f)
	if !bytes.Equal(f.Payload, letters(32)) {
		t.Error("EncodeFrame wrote into the payload")
	}
	f.Payload[0] = '?'
	if b[18] != 'a' {
		t.Error("EncodeFrame's answer shares the payload")
	}
	b[18] = '!'
	if f.Payload[0] != '?' {
		t.Error("the payload shares EncodeFrame's answer")
	}

	b = layDown(impl.Frame{Kind: impl.FrameData, Seq: 5, Payload: letters(32)})
	keep := append([]byte(nil), b...)
	got, _ := impl.DecodeFrame(b)
	impl.Crc32(b)
	if !bytes.Equal(b, keep) {
		t.Error("a call wrote into its bytes")
	}
	clear(b)
	if !bytes.Equal(got.Payload, letters(32)) {
		t.Error("DecodeFrame's answer shares its bytes")
	}
}

func TestSplitKeepsMemoryApart(t *testing.T) {
	frames := []impl.Frame{
		{Kind: impl.FrameData, Payload: letters(3)},
		{Kind: impl.FrameData, Payload: letters(32)},
		{Kind: impl.FrameData, Payload: letters(1)},
	}
	b := join(frames)
	whole := append(b[:len(b):len(b)], 1, 2, 3)
	keep := append([]byte(nil), whole...)
	got, _, _ := impl.SplitFrames(whole)
	if !bytes.Equal(whole, keep) {
		t.Error("SplitFrames wrote into its bytes")
	}
	clear(whole)
	if !sameFrames(got, frames) {
		t.Error("SplitFrames' answer shares its bytes")
	}
	for i := range got {
		room := got[i].Payload[:cap(got[i].Payload)]
		for j := range room {
			room[j] = byte('0' + i)
		}
	}
	for i := range got {
		for _, c := range got[i].Payload {
			if c != byte('0'+i) {
				t.Fatalf("payload %d shares memory with another", i)
			}
		}
	}
	for _, c := range whole {
		if c != 0 {
			t.Fatal("a payload shares memory with the bytes")
		}
	}
}
