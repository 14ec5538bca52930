package tests

import (
	"fmt"
	"math"
	"math/big"
	"math/rand"
	"reflect"
	"sort"
	"testing"

	"loop.example/s03010/impl"
)

func TestReorderNumbers(t *testing.T) {
	got := []uint64{impl.ReorderPut, impl.ReorderRead, impl.ReorderFin, impl.MaxCap, impl.MaxStart}
	if want := []uint64{1, 2, 3, 4096, 1 << 62}; !reflect.DeepEqual(got, want) {
		t.Errorf("the numbers of the chapter are %v, want %v", got, want)
	}
}

// The fields that an event does not need are filled: they mean nothing.
func putAt(off uint64, data []byte) impl.ReorderEvent {
	return impl.ReorderEvent{Kind: impl.ReorderPut, Off: off, Data: data, N: -3}
}

func readOf(n int64) impl.ReorderEvent {
	return impl.ReorderEvent{Kind: impl.ReorderRead, N: n, Off: 1, Data: []byte("x")}
}

func finAt(off uint64) impl.ReorderEvent {
	return impl.ReorderEvent{Kind: impl.ReorderFin, Off: off, N: 7, Data: []byte("y")}
}

// piece is n bytes of the one stream of these tests, from an offset on; no two places 251 or fewer apart have the same byte.
func piece(off uint64, n int) []byte {
	b := make([]byte, n)
	for i := range b {
		b[i] = byte((off + uint64(i)) % 251)
	}
	return b
}

// streamPut puts n bytes of the one stream.
func streamPut(off uint64, n int) impl.ReorderEvent {
	return putAt(off, piece(off, n))
}

// reorderModel is the buffer by the chapter's words: a byte an offset, and sums of whole numbers without end.
type reorderModel struct {
	size   int64
	read   uint64
	bytes  map[uint64]byte
	hasFin bool
	fin    uint64
}

func newReorderModel(start uint64, size int64) *reorderModel {
	return &reorderModel{size: size, read: start, bytes: map[uint64]byte{}}
}

// beyond tells whether off + n is above Read + size.
func (m *reorderModel) beyond(off uint64, n int) bool {
	end := new(big.Int).Add(new(big.Int).SetUint64(off), big.NewInt(int64(n)))
	top := new(big.Int).Add(new(big.Int).SetUint64(m.read), big.NewInt(m.size))
	return end.Cmp(top) > 0
}

func (m *reorderModel) next() uint64 {
	at := m.read
	for {
		if _, held := m.bytes[at]; !held {
			return at
		}
		at++
	}
}

func (m *reorderModel) step(e impl.ReorderEvent) impl.ReorderOut {
	switch e.Kind {
	case impl.ReorderPut:
		return m.put(e.Off, e.Data)
	case impl.ReorderRead:
		return m.take(e.N)
	case impl.ReorderFin:
		return impl.ReorderOut{Code: m.end(e.Off)}
	}
	return impl.ReorderOut{Code: impl.ErrForm}
}

func (m *reorderModel) put(off uint64, data []byte) impl.ReorderOut {
	if len(data) == 0 || len(data) > 32 {
		return impl.ReorderOut{Code: impl.ErrForm}
	}
	if m.beyond(off, len(data)) {
		return impl.ReorderOut{Code: impl.ErrRange}
	}
	if m.hasFin && off+uint64(len(data)) > m.fin {
		return impl.ReorderOut{Code: impl.ErrFin}
	}
	kept := int64(0)
	for i, x := range data {
		at := off + uint64(i)
		if _, held := m.bytes[at]; held || at < m.read {
			continue
		}
		m.bytes[at] = x
		kept++
	}
	return impl.ReorderOut{N: kept}
}

func (m *reorderModel) end(off uint64) int64 {
	if m.hasFin && m.fin != off || off < m.read {
		return impl.ErrFin
	}
	for at := range m.bytes {
		if at >= off {
			return impl.ErrFin
		}
	}
	if m.beyond(off, 0) {
		return impl.ErrRange
	}
	m.hasFin, m.fin = true, off
	return impl.OK
}

func (m *reorderModel) take(n int64) impl.ReorderOut {
	var out impl.ReorderOut
	for next := m.next(); out.N < n && m.read < next; m.read++ {
		out.Data = append(out.Data, m.bytes[m.read])
		delete(m.bytes, m.read)
		out.N++
	}
	if out.N == 0 && m.hasFin && m.read == m.fin {
		out.Code = impl.EOF
	}
	return out
}

func (m *reorderModel) view() impl.ReorderView {
	v := impl.ReorderView{Read: m.read, Next: m.next()}
	if m.hasFin {
		v.HasFin, v.Fin = 1, m.fin
	}
	var offs []uint64
	for at := range m.bytes {
		offs = append(offs, at)
	}
	sort.Slice(offs, func(i, j int) bool { return offs[i] < offs[j] })
	for _, at := range offs {
		if last := len(v.Held) - 1; last >= 0 && v.Held[last].Hi == at {
			v.Held[last].Hi = at + 1
			continue
		}
		v.Held = append(v.Held, impl.Span{Lo: at, Hi: at + 1})
	}
	return v
}

// wantReorder holds both calls against the model and tells the outs.
func wantReorder(t *testing.T, what string, start uint64, size int64, events []impl.ReorderEvent) []impl.ReorderOut {
	t.Helper()
	m := newReorderModel(start, size)
	outs, code := impl.ReorderRun(start, size, events)
	wantCode(t, what, code, impl.OK)
	if len(outs) != len(events) {
		t.Fatalf("%s: %d outs of %d events", what, len(outs), len(events))
	}
	for i, e := range events {
		if want := m.step(e); !sameValue(outs[i], want) {
			t.Fatalf("%s: event %d, %v: %v, want %v", what, i, e, outs[i], want)
		}
	}
	v, code := impl.ReorderState(start, size, events)
	wantCode(t, what, code, impl.OK)
	if want := m.view(); !sameValue(v, want) {
		t.Fatalf("%s: view %v, want %v", what, v, want)
	}
	return outs
}

// wantLast asks what the last of the events brings; all are held against the model too.
func wantLast(t *testing.T, what string, start uint64, size int64, events []impl.ReorderEvent, want impl.ReorderOut) {
	t.Helper()
	outs := wantReorder(t, what, start, size, events)
	if got := outs[len(outs)-1]; !sameValue(got, want) {
		t.Errorf("%s: %v, want %v", what, got, want)
	}
}

// wantRefused asks that one more event is refused with a code and changes nothing.
func wantRefused(t *testing.T, what string, start uint64, size int64, events []impl.ReorderEvent, e impl.ReorderEvent, code int64) {
	t.Helper()
	before, _ := impl.ReorderState(start, size, events)
	all := append(append([]impl.ReorderEvent(nil), events...), e)
	wantLast(t, what, start, size, all, impl.ReorderOut{Code: code})
	after, _ := impl.ReorderState(start, size, all)
	if !sameValue(before, after) {
		t.Errorf("%s: refused, and yet %v became %v", what, before, after)
	}
	wantReorder(t, what, start, size, append(all, readOf(math.MaxInt64), readOf(1)))
}

// someReorderEvents are events by chance about the window of the moment.
func someReorderEvents(r *rand.Rand, start uint64, size int64, oneStream bool) []impl.ReorderEvent {
	m := newReorderModel(start, size)
	events := make([]impl.ReorderEvent, r.Intn(120))
	for i := range events {
		off := m.read + uint64(r.Int63n(size+8)) - uint64(r.Intn(6))
		e := streamPut(off, 1+r.Intn(int(min(size+2, 9))))
		switch k := r.Intn(24); {
		case k < 6:
			e = readOf(r.Int63n(size+4) - 2)
		case k == 6 && r.Intn(3) == 0:
			e = finAt(off)
		case k == 7 && r.Intn(4) == 0:
			e.Kind = r.Int63n(8) - 2
		case k == 8:
			e = streamPut(off, r.Intn(40))
		case k == 9:
			e.Off = topOffset - uint64(r.Intn(12))
		}
		if !oneStream {
			r.Read(e.Data)
		}
		m.step(e)
		events[i] = e
	}
	return events
}

func someStart(r *rand.Rand) uint64 {
	return []uint64{0, 0, 1, 5, 250, 1<<32 - 3, impl.MaxStart - 1, impl.MaxStart, uint64(r.Int63n(impl.MaxStart))}[r.Intn(9)]
}

// Also pieces that say different bytes at one offset: the first that came stays.
func TestReorderByChance(t *testing.T) {
	r := rand.New(rand.NewSource(51))
	for run := range 6000 {
		start, size := someStart(r), 1+r.Int63n(40)
		wantReorder(t, fmt.Sprintf("run %d, start %d, size %d", run, start, size), start, size, someReorderEvents(r, start, size, run%2 == 0))
	}
}

// Promise 9, told without the model: what is read is the stream from its start on, what is held was put and not read, and lies below Read + size.
func TestReorderOneStream(t *testing.T) {
	r := rand.New(rand.NewSource(52))
	total := 0
	for run := range 3000 {
		start, size := someStart(r), 1+r.Int63n(40)
		events := someReorderEvents(r, start, size, true)
		outs, code := impl.ReorderRun(start, size, events)
		wantCode(t, "ReorderRun", code, impl.OK)
		v, _ := impl.ReorderState(start, size, events)
		var stream []byte
		var put []impl.Span
		for i, o := range outs {
			stream = append(stream, o.Data...)
			if e := events[i]; e.Kind == impl.ReorderPut && o.Code == impl.OK {
				put, _ = impl.SpanAdd(put, impl.Span{Lo: e.Off, Hi: e.Off + uint64(len(e.Data))})
			}
		}
		if want := piece(start, len(stream)); string(stream) != string(want) {
			t.Fatalf("run %d: read %v, want %v", run, stream, want)
		}
		if v.Read != start+uint64(len(stream)) {
			t.Fatalf("run %d: Read is %d after %d bytes from %d on", run, v.Read, len(stream), start)
		}
		held, _ := impl.SpanCut(put, impl.Span{Lo: 0, Hi: v.Read})
		if !sameSpans(held, v.Held) {
			t.Fatalf("run %d: held %v, put and not read %v", run, v.Held, held)
		}
		if n := len(held); n > 0 && held[n-1].Hi > v.Read+uint64(size) {
			t.Fatalf("run %d: held %v, Read %d, size %d", run, held, v.Read, size)
		}
		total += len(stream)
	}
	if total < 10000 {
		t.Errorf("only %d bytes were read", total)
	}
}

// Pieces about Read + size, one byte more and one byte less.
func TestReorderTop(t *testing.T) {
	for _, start := range []uint64{0, 1, 7, 1 << 32, impl.MaxStart} {
		for _, size := range []int64{1, 2, 31, 32, 33, 100, impl.MaxCap} {
			n := int(min(size, 32))
			top := start + uint64(size)
			what := fmt.Sprintf("start %d, size %d", start, size)
			wantLast(t, what+": up to the top", start, size, []impl.ReorderEvent{streamPut(top-uint64(n), n)}, impl.ReorderOut{N: int64(n)})
			wantRefused(t, what+": one above the top", start, size, nil, streamPut(top-uint64(n)+1, n), impl.ErrRange)
			wantRefused(t, what+": at the top", start, size, nil, streamPut(top, 1), impl.ErrRange)
			wantRefused(t, what+": behind the top", start, size, nil, streamPut(top+1, 1), impl.ErrRange)
			one := []impl.ReorderEvent{streamPut(start, 1), readOf(1)}
			wantLast(t, what+": the top goes up with Read", start, size, append(one, streamPut(top, 1)), impl.ReorderOut{N: 1})
			wantRefused(t, what+": by as much", start, size, one, streamPut(top+1, 1), impl.ErrRange)
		}
	}
}

func TestReorderPieces(t *testing.T) {
	wantLast(t, "a piece of MaxPayload bytes", 0, 40, []impl.ReorderEvent{streamPut(3, 32)}, impl.ReorderOut{N: 32})
	wantRefused(t, "one byte more", 0, 40, nil, streamPut(3, 33), impl.ErrForm)
	wantRefused(t, "no byte", 0, 40, nil, streamPut(3, 0), impl.ErrForm)
	wantRefused(t, "nil", 0, 40, nil, putAt(3, nil), impl.ErrForm)
	wantRefused(t, "too long, and beyond the top", 0, 4, nil, streamPut(30, 33), impl.ErrForm)
	wantRefused(t, "empty, and beyond the top", 0, 4, nil, streamPut(30, 0), impl.ErrForm)
	wantRefused(t, "empty, behind the end", 0, 9, []impl.ReorderEvent{finAt(2)}, streamPut(3, 0), impl.ErrForm)
	wantRefused(t, "too long, behind the end", 0, 90, []impl.ReorderEvent{finAt(2)}, streamPut(3, 33), impl.ErrForm)
}

// Nothing wraps on the way to a comparison, and far offsets fall into no slot.
func TestReorderFarOffsets(t *testing.T) {
	for _, start := range []uint64{0, 3, 40, impl.MaxStart} {
		for _, size := range []int64{1, 64, impl.MaxCap} {
			for _, back := range []uint64{0, 1, 2, 31, 32, 33, 63, 4095, 4096, 1 << 33, 1 << 62, 1 << 63} {
				for _, n := range []int{1, 2, 31, 32} {
					off := topOffset - back
					what := fmt.Sprintf("start %d, size %d, %d bytes at %d", start, size, n, off)
					wantRefused(t, what, start, size, nil, streamPut(off, n), impl.ErrRange)
					wantRefused(t, what+" behind the end", start, size, []impl.ReorderEvent{finAt(start + 1)}, streamPut(off, n), impl.ErrRange)
				}
				wantRefused(t, fmt.Sprintf("start %d, size %d, the end at %d", start, size, topOffset-back), start, size, nil, finAt(topOffset-back), impl.ErrRange)
			}
		}
	}
}

// What is held is never overwritten, what was read never comes back.
func TestReorderOverlap(t *testing.T) {
	held := []impl.ReorderEvent{putAt(12, []byte("cd")), putAt(16, []byte("gh"))}
	for _, r := range []struct {
		what string
		off  uint64
		data string
		kept int64
		read string
	}{
		{"all of it held", 12, "XX", 0, ""},
		{"part of it held", 11, "bXXe", 2, ""},
		{"over two spans and their gap", 10, "abXXefXXij", 6, "abcdefghij"},
		{"just in front", 10, "ab", 2, "abcd"},
		{"just behind", 18, "ij", 2, ""},
		{"inside the gap", 14, "ef", 2, ""},
		{"over the first and from the start", 10, "abXX", 2, "abcd"},
		{"from below the start", 8, "XXabX", 2, "abcd"},
		{"below the start alone", 7, "XXX", 0, ""},
		{"from 0 on", 0, "XXXXXXXXXXabXXe", 3, "abcde"},
	} {
		events := append(append([]impl.ReorderEvent(nil), held...), putAt(r.off, []byte(r.data)))
		wantLast(t, r.what, 10, 20, events, impl.ReorderOut{N: r.kept})
		wantLast(t, r.what+", read", 10, 20, append(events, readOf(99)), impl.ReorderOut{N: int64(len(r.read)), Data: []byte(r.read)})
	}
	read := append(held, putAt(10, []byte("ab")), readOf(3))
	wantLast(t, "over what was read and what is held", 10, 20, append(read, putAt(10, []byte("XXXXefXX"))), impl.ReorderOut{N: 2})
	wantLast(t, "what was read alone", 10, 20, append(read, putAt(10, []byte("XXX"))), impl.ReorderOut{})
	again := append(read, putAt(9, []byte("XXXXX")), readOf(9))
	wantLast(t, "the held byte behind it stays", 10, 20, again, impl.ReorderOut{N: 1, Data: []byte("d")})
}

// The end below Read, at Read, below and at what is held, at the top and above it.
func TestReorderFin(t *testing.T) {
	events := []impl.ReorderEvent{streamPut(10, 6), readOf(4), streamPut(18, 2)}
	for _, r := range []struct {
		off  uint64
		code int64
	}{
		{0, impl.ErrFin}, {10, impl.ErrFin}, {13, impl.ErrFin}, {14, impl.ErrFin}, {15, impl.ErrFin}, {16, impl.ErrFin},
		{18, impl.ErrFin}, {19, impl.ErrFin}, {20, impl.OK}, {21, impl.OK}, {33, impl.OK}, {34, impl.OK},
		{35, impl.ErrRange}, {1 << 62, impl.ErrRange}, {topOffset, impl.ErrRange},
	} {
		what := fmt.Sprintf("the end at %d", r.off)
		if r.code != impl.OK {
			wantRefused(t, what, 10, 20, events, finAt(r.off), r.code)
			continue
		}
		wantLast(t, what, 10, 20, append(append([]impl.ReorderEvent(nil), events...), finAt(r.off)), impl.ReorderOut{})
	}
	gap := []impl.ReorderEvent{streamPut(10, 2), readOf(2)}
	wantLast(t, "at Read with nothing held", 10, 20, append(gap, finAt(12)), impl.ReorderOut{})
	wantLast(t, "at Read at the start", 10, 20, []impl.ReorderEvent{finAt(10)}, impl.ReorderOut{})
	wantRefused(t, "below the start", 10, 20, nil, finAt(9), impl.ErrFin)
	wantLast(t, "at a top of 1", 10, 1, []impl.ReorderEvent{finAt(11)}, impl.ReorderOut{})
	wantRefused(t, "above a top of 1", 10, 1, nil, finAt(12), impl.ErrRange)
	wantLast(t, "at the top of all", impl.MaxStart, impl.MaxCap, []impl.ReorderEvent{finAt(impl.MaxStart + impl.MaxCap)}, impl.ReorderOut{})
	wantRefused(t, "above the top of all", impl.MaxStart, impl.MaxCap, nil, finAt(impl.MaxStart+impl.MaxCap+1), impl.ErrRange)
}

// An end that is known stays, and comes ahead of the range.
func TestReorderFinKnown(t *testing.T) {
	known := []impl.ReorderEvent{streamPut(2, 2), finAt(6)}
	wantLast(t, "the same end again", 0, 8, append(known, finAt(6)), impl.ReorderOut{})
	for _, off := range []uint64{0, 4, 5, 7, 8, 9, topOffset} {
		wantRefused(t, fmt.Sprintf("another end, %d", off), 0, 8, known, finAt(off), impl.ErrFin)
	}
	wantLast(t, "a piece up to the end", 0, 8, append(known, streamPut(4, 2)), impl.ReorderOut{N: 2})
	wantRefused(t, "a piece over the end", 0, 8, known, streamPut(4, 3), impl.ErrFin)
	wantRefused(t, "a piece behind the end", 0, 8, known, streamPut(6, 2), impl.ErrFin)
	wantRefused(t, "a piece over the end and the top: the range comes first", 0, 8, known, streamPut(5, 4), impl.ErrRange)
	whole := append(known, streamPut(0, 6), readOf(6))
	wantLast(t, "the same end when all has been read", 0, 8, append(whole, finAt(6)), impl.ReorderOut{})
	wantRefused(t, "another end when all has been read", 0, 8, whole, finAt(5), impl.ErrFin)
	wantRefused(t, "one more byte when all has been read", 0, 8, whole, streamPut(6, 1), impl.ErrFin)
	wantLast(t, "old bytes when all has been read", 0, 8, append(whole, streamPut(0, 6)), impl.ReorderOut{})
	zero := []impl.ReorderEvent{finAt(0)}
	wantRefused(t, "an end of 0 is known too", 0, 8, zero, finAt(1), impl.ErrFin)
	wantRefused(t, "and bars all bytes", 0, 8, zero, streamPut(0, 1), impl.ErrFin)
}

func TestReorderReads(t *testing.T) {
	five := []impl.ReorderEvent{putAt(0, []byte("abcde")), putAt(6, []byte("g"))}
	for _, r := range []struct {
		n    int64
		want string
	}{
		{math.MinInt64, ""}, {-1, ""}, {0, ""}, {1, "a"}, {4, "abcd"}, {5, "abcde"}, {6, "abcde"}, {7, "abcde"}, {math.MaxInt64, "abcde"},
	} {
		wantLast(t, fmt.Sprintf("read of %d", r.n), 0, 10, append(append([]impl.ReorderEvent(nil), five...), readOf(r.n)),
			impl.ReorderOut{N: int64(len(r.want)), Data: []byte(r.want)})
	}
	for _, n := range []int64{math.MinInt64, -1, 0, 1, math.MaxInt64} {
		what := fmt.Sprintf("read of %d", n)
		ended := append(append([]impl.ReorderEvent(nil), five...), finAt(7))
		wantLast(t, what+" of nothing", 0, 10, []impl.ReorderEvent{readOf(n)}, impl.ReorderOut{})
		wantLast(t, what+" in front of a gap", 0, 10, append(ended, readOf(5), readOf(n)), impl.ReorderOut{})
		all := append(ended, putAt(5, []byte("f")), readOf(7), readOf(n))
		wantLast(t, what+" at the end", 0, 10, all, impl.ReorderOut{Code: impl.EOF})
		wantLast(t, what+" at the end once more", 0, 10, append(all, readOf(n)), impl.ReorderOut{Code: impl.EOF})
		wantLast(t, what+" of an empty stream", 3, 1, []impl.ReorderEvent{finAt(3), readOf(n)}, impl.ReorderOut{Code: impl.EOF})
		wantLast(t, what+" of an empty stream whose end is not known", 3, 1, []impl.ReorderEvent{readOf(n)}, impl.ReorderOut{})
	}
	wantLast(t, "the last bytes are no EOF", 0, 10, []impl.ReorderEvent{streamPut(0, 3), finAt(3), readOf(9)}, impl.ReorderOut{N: 3, Data: piece(0, 3)})
	wantLast(t, "a read of none ahead of the last bytes is no EOF", 0, 10, []impl.ReorderEvent{streamPut(0, 3), finAt(3), readOf(0)}, impl.ReorderOut{})
	wantLast(t, "the end becomes known behind the last read", 0, 10, []impl.ReorderEvent{streamPut(0, 3), readOf(3), readOf(1), finAt(3), readOf(1)}, impl.ReorderOut{Code: impl.EOF})
}

func TestReorderKinds(t *testing.T) {
	for _, kind := range []int64{0, 4, -1, math.MinInt64, math.MaxInt64, 1<<32 + 1} {
		e := impl.ReorderEvent{Kind: kind, Off: 2, Data: []byte("abc"), N: 3}
		wantRefused(t, fmt.Sprintf("kind %d", kind), 0, 9, []impl.ReorderEvent{streamPut(0, 2)}, e, impl.ErrForm)
	}
}

// wantReorderCode asks both calls for a code, and for zero answers beside a refusal.
func wantReorderCode(t *testing.T, start uint64, size int64, events []impl.ReorderEvent, want int64) {
	t.Helper()
	what := fmt.Sprintf("start %d, size %d, %d events", start, size, len(events))
	outs, code := impl.ReorderRun(start, size, events)
	wantCode(t, what, code, want)
	v, code := impl.ReorderState(start, size, events)
	wantCode(t, what, code, want)
	if want == impl.OK {
		wantReorder(t, what, start, size, events)
	} else if len(outs) != 0 || !sameValue(v, impl.ReorderView{}) {
		t.Errorf("%s: refused, and yet %d outs, %v", what, len(outs), v)
	}
}

func TestReorderRefused(t *testing.T) {
	start := func(n int) []impl.ReorderEvent { return make([]impl.ReorderEvent, n) }
	for _, n := range []int{0, 1, impl.MaxEvents, impl.MaxEvents + 1} {
		code := int64(impl.OK)
		if n > impl.MaxEvents {
			code = impl.ErrLimit
		}
		for _, size := range []int64{1, 2, impl.MaxCap - 1, impl.MaxCap} {
			wantReorderCode(t, 0, size, start(n), code)
			wantReorderCode(t, impl.MaxStart, size, start(n), code)
			for _, s := range []uint64{impl.MaxStart + 1, 1 << 63, topOffset} {
				wantReorderCode(t, s, size, start(n), impl.ErrConfig)
			}
		}
		for _, size := range []int64{0, -1, impl.MaxCap + 1, math.MinInt64, math.MaxInt64, 1<<32 + 1} {
			wantReorderCode(t, 0, size, start(n), impl.ErrConfig)
			wantReorderCode(t, impl.MaxStart+1, size, start(n), impl.ErrConfig)
		}
	}
}

// More spans than a span set of chapter 2 may have: none is left out, none refused.
func TestReorderManySpans(t *testing.T) {
	var events []impl.ReorderEvent
	for off := uint64(1); off < impl.MaxCap; off += 2 {
		events = append(events, streamPut(off, 1))
	}
	outs := wantReorder(t, "every second byte", 0, impl.MaxCap, events)
	for i, o := range outs {
		if o.Code != impl.OK || o.N != 1 {
			t.Fatalf("piece %d: %v", i, o)
		}
	}
	v, _ := impl.ReorderState(0, impl.MaxCap, events)
	if len(v.Held) != 2048 || v.Held[2047] != (impl.Span{Lo: 4095, Hi: 4096}) {
		t.Errorf("%d spans held", len(v.Held))
	}
	for off := 0; off < impl.MaxCap; off += 32 {
		events = append(events, streamPut(uint64(off), 32))
	}
	wantLast(t, "all gaps filled", 0, impl.MaxCap, append(events, readOf(impl.MaxCap)), impl.ReorderOut{N: impl.MaxCap, Data: piece(0, impl.MaxCap)})
}

// A long stream goes many times round the buffer.
func TestReorderLongRun(t *testing.T) {
	for _, size := range []int64{1, 7, 32, 33, impl.MaxCap} {
		n := int(min(size, 32))
		var events []impl.ReorderEvent
		at := uint64(impl.MaxStart)
		for range impl.MaxEvents / 2 {
			events = append(events, streamPut(at, n), readOf(32))
			at += uint64(n)
		}
		outs := wantReorder(t, fmt.Sprintf("size %d", size), impl.MaxStart, size, events)
		if last := outs[len(outs)-1]; last.N != int64(n) || last.Code != impl.OK {
			t.Errorf("size %d: the last read %v", size, last)
		}
	}
}

// Answers stay apart from each other and from the pieces, which stay as they are; nothing is kept.
func TestReorderMemory(t *testing.T) {
	r := rand.New(rand.NewSource(53))
	for run := range 400 {
		start, size := someStart(r), 1+r.Int63n(30)
		events := someReorderEvents(r, start, size, true)
		before := make([]impl.ReorderEvent, len(events))
		for i, e := range events {
			before[i] = e
			before[i].Data = append([]byte(nil), e.Data...)
		}
		outs, _ := impl.ReorderRun(start, size, events)
		v, _ := impl.ReorderState(start, size, events)
		wantApart(t, "ReorderRun", outs, events)
		wantApart(t, "ReorderState", v, events, outs)
		if !sameValue(events, before) {
			t.Fatalf("run %d: events were written into", run)
		}
		for i := range outs {
			for j := range outs[i].Data {
				outs[i].Data[j] ^= 255
			}
		}
		wantReorder(t, "once more", start, size, events)
	}
}
