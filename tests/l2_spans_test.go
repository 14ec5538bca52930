package tests

import (
	"fmt"
	"math"
	"math/big"
	"math/rand"
	"testing"

	"loop.example/s03010/impl"
)

// oddNumbers are 32-bit numbers at the edges of the circle and of its halves.
func oddNumbers() []uint32 {
	return []uint32{0, 1, 2, 1<<31 - 2, 1<<31 - 1, 1 << 31, 1<<31 + 1, math.MaxUint32 - 1, math.MaxUint32}
}

// oddOffsets are offsets at the edges of the 64-bit range and of its turns of the circle.
func oddOffsets() []uint64 {
	return []uint64{0, 1, 1<<31 - 1, 1 << 31, 1<<31 + 1, 1<<32 - 1, 1 << 32, 1<<32 + 1, 1<<40 + 3, 1 << 63,
		topOffset - 1<<32, topOffset - 1<<31 - 1, topOffset - 1<<31, topOffset - 1<<31 + 1, topOffset - 1, topOffset}
}

// Promise 4, the circle.
func TestSerial(t *testing.T) {
	for _, r := range []struct {
		a, b uint32
		want int64
	}{
		{0, 0, 0}, {7, 7, 0}, {0, 1, 1}, {1, 0, -1}, {math.MaxUint32, 0, 1}, {0, math.MaxUint32, -1}, {math.MaxUint32, 1, 2},
		{0, 1<<31 - 1, 1<<31 - 1}, {0, 1 << 31, -1 << 31}, {1 << 31, 0, -1 << 31}, {0, 1<<31 + 1, -1<<31 + 1},
		{5, 5 + 1<<31, -1 << 31}, {5 + 1<<31, 5, -1 << 31},
	} {
		if got := impl.SerialDistance(r.a, r.b); got != r.want {
			t.Errorf("from %d to %d: %d, want %d", r.a, r.b, got, r.want)
		}
	}
	numbers := oddNumbers()
	random := rand.New(rand.NewSource(1))
	for range 100 {
		numbers = append(numbers, random.Uint32())
	}
	for _, a := range numbers {
		for _, b := range numbers {
			checkSerial(t, a, b)
		}
	}
}

func checkSerial(t *testing.T, a, b uint32) {
	t.Helper()
	d := impl.SerialDistance(a, b)
	if d < -1<<31 || d >= 1<<31 || uint32(int64(a)+d) != b {
		t.Errorf("from %d to %d: %d", a, b, d)
	}
	less, more := impl.SerialLess(a, b), impl.SerialLess(b, a)
	if less != (d > 0) {
		t.Errorf("%d less than %d: %v, at a distance of %d", a, b, less, d)
	}
	if b-a == 0 || b-a == 1<<31 {
		if less || more {
			t.Errorf("%d and %d: one is less", a, b)
		}
	} else if less == more {
		t.Errorf("%d and %d: not just one is less", a, b)
	}
}

// Promise 4, Lift: every x near by, told by its distance in whole numbers without end.
func TestLiftBringsBack(t *testing.T) {
	distances := []int64{-1 << 31, -1<<31 + 1, -2, -1, 0, 1, 2, 1<<31 - 2, 1<<31 - 1}
	random := rand.New(rand.NewSource(2))
	for range 30 {
		distances = append(distances, random.Int63n(1<<32)-1<<31)
	}
	nears := oddOffsets()
	for range 100 {
		nears = append(nears, random.Uint64())
	}
	top := new(big.Int).SetUint64(topOffset)
	for _, near := range nears {
		for _, d := range distances {
			x := new(big.Int).SetUint64(near)
			x.Add(x, big.NewInt(d))
			want, wantCode := uint64(0), int64(impl.ErrRange)
			if x.Sign() >= 0 && x.Cmp(top) <= 0 {
				want, wantCode = x.Uint64(), impl.OK
			}
			got, code := impl.Lift(near, uint32(near)+uint32(d))
			if got != want || code != wantCode {
				t.Fatalf("near %d at a distance of %d: %d, code %d; want %d, code %d", near, d, got, code, want, wantCode)
			}
		}
	}
}

func TestLiftEdges(t *testing.T) {
	for _, r := range []struct {
		near uint64
		s    uint32
		want uint64
		code int64
	}{
		{0, 0, 0, impl.OK},
		{0, 1<<31 - 1, 1<<31 - 1, impl.OK},
		{0, 1 << 31, 0, impl.ErrRange},
		{0, math.MaxUint32, 0, impl.ErrRange},
		{1<<31 - 1, math.MaxUint32, 0, impl.ErrRange},
		{1 << 31, 0, 0, impl.OK},
		{1 << 32, math.MaxUint32, 1<<32 - 1, impl.OK},
		{1 << 32, 1 << 31, 1 << 31, impl.OK},
		{topOffset, math.MaxUint32, topOffset, impl.OK},
		{topOffset, 0, 0, impl.ErrRange},
		{topOffset, 1<<31 - 2, 0, impl.ErrRange},
		{topOffset, 1<<31 - 1, topOffset - 1<<31, impl.OK},
		{topOffset, math.MaxUint32 - 1, topOffset - 1, impl.OK},
	} {
		got, code := impl.Lift(r.near, r.s)
		if got != r.want || code != r.code {
			t.Errorf("lift %d near %d: %d, code %d; want %d, code %d", r.s, r.near, got, code, r.want, r.code)
		}
	}
}

// spansOf is the span set of the bits of a number, from an offset on.
func spansOf(bits uint, base uint64) []impl.Span {
	var set []impl.Span
	for i := uint64(0); bits>>i != 0; i++ {
		if bits>>i&1 == 0 {
			continue
		}
		if n := len(set); n > 0 && set[n-1].Hi == base+i {
			set[n-1].Hi++
		} else {
			set = append(set, impl.Span{Lo: base + i, Hi: base + i + 1})
		}
	}
	return set
}

// Promise 5 on every set and every span of ten offsets, at the start, in the midst and at the end of the range.
func TestSpansOfTen(t *testing.T) {
	for _, base := range []uint64{0, 1 << 40, topOffset - 10} {
		for bits := uint(0); bits < 1<<10; bits++ {
			for hi := uint(0); hi <= 10; hi++ {
				for lo := uint(0); lo <= hi; lo++ {
					checkSpans(t, base, bits, lo, hi)
				}
			}
			if t.Failed() {
				return
			}
		}
	}
}

func checkSpans(t *testing.T, base uint64, bits, lo, hi uint) {
	t.Helper()
	set := spansOf(bits, base)
	s := impl.Span{Lo: base + uint64(lo), Hi: base + uint64(hi)}
	inside := uint(1)<<hi - uint(1)<<lo
	what := fmt.Sprintf("%v and %v", set, s)
	for _, r := range []struct {
		name string
		call func([]impl.Span, impl.Span) ([]impl.Span, int64)
		want uint
	}{
		{"SpanAdd", impl.SpanAdd, bits | inside},
		{"SpanCut", impl.SpanCut, bits &^ inside},
		{"SpanGaps", impl.SpanGaps, inside &^ bits},
	} {
		got, code := r.call(set, s)
		if code != impl.OK || !sameSpans(got, spansOf(r.want, base)) {
			t.Errorf("%s of %s: %v, code %d", r.name, what, got, code)
		}
	}
	size := uint64(0)
	for i := lo; i < hi; i++ {
		size += uint64(bits >> i & 1)
	}
	got, code := impl.SpanSize(set, s)
	if got != size || code != impl.OK {
		t.Errorf("SpanSize of %s: %d, code %d", what, got, code)
	}
	has := int64(0)
	if size == uint64(hi-lo) {
		has = 1
	}
	mark, code := impl.SpanHas(set, s)
	if mark != has || code != impl.OK {
		t.Errorf("SpanHas of %s: %d, code %d", what, mark, code)
	}
}

// someSet is a span set of n spans with gaps and spans of up to wide offsets.
func someSet(r *rand.Rand, n int, wide int64) []impl.Span {
	set := make([]impl.Span, 0, n)
	at := uint64(r.Int63n(wide))
	for range n {
		x := impl.Span{Lo: at, Hi: at + 1 + uint64(r.Int63n(wide))}
		set = append(set, x)
		at = x.Hi + 1 + uint64(r.Int63n(wide))
	}
	return set
}

// Promise 5 on long sets: what a walk over the offsets' edges cannot reach.
func TestLongSpanSets(t *testing.T) {
	r := rand.New(rand.NewSource(3))
	for range 300 {
		set := someSet(r, r.Intn(901), 1+r.Int63n(1<<40))
		top := uint64(1)
		if len(set) > 0 {
			top = set[len(set)-1].Hi + 5
		}
		a, b := r.Uint64()%top, r.Uint64()%top
		if len(set) > 0 && r.Intn(2) == 0 {
			a, b = set[r.Intn(len(set))].Lo, set[r.Intn(len(set))].Hi
		}
		checkFit(t, set, impl.Span{Lo: min(a, b), Hi: max(a, b)})
	}
	checkFit(t, nil, impl.Span{Lo: 0, Hi: topOffset})
	checkFit(t, []impl.Span{{Lo: 0, Hi: topOffset}}, impl.Span{Lo: 0, Hi: topOffset})
	checkFit(t, []impl.Span{{Lo: 0, Hi: topOffset}}, impl.Span{Lo: topOffset, Hi: topOffset})
	checkFit(t, []impl.Span{{Lo: 0, Hi: 1}, {Lo: topOffset - 1, Hi: topOffset}}, impl.Span{Lo: 0, Hi: topOffset})
}

// checkFit asks whether the five calls fit one another.
func checkFit(t *testing.T, set []impl.Span, s impl.Span) {
	t.Helper()
	added, code1 := impl.SpanAdd(set, s)
	cut, code2 := impl.SpanCut(set, s)
	gaps, code3 := impl.SpanGaps(set, s)
	if code1 != impl.OK || code2 != impl.OK || code3 != impl.OK {
		t.Fatalf("%d spans and %v: codes %d %d %d", len(set), s, code1, code2, code3)
	}
	all := impl.Span{Lo: 0, Hi: topOffset}
	in := sizeOf(t, set, s)
	if sizeOf(t, cut, s) != 0 || sizeOf(t, cut, all) != sizeOf(t, set, all)-in {
		t.Errorf("%d spans and %v: what is cut is still there", len(set), s)
	}
	if sizeOf(t, gaps, all) != s.Hi-s.Lo-in || sizeOf(t, gaps, s) != s.Hi-s.Lo-in {
		t.Errorf("%d spans and %v: the gaps have a wrong size", len(set), s)
	}
	if sizeOf(t, added, s) != s.Hi-s.Lo || sizeOf(t, added, all) != sizeOf(t, cut, all)+s.Hi-s.Lo {
		t.Errorf("%d spans and %v: what is added has a wrong size", len(set), s)
	}
	for _, x := range set {
		if has, _ := impl.SpanHas(added, x); has != 1 {
			t.Errorf("%d spans and %v: %v is lost", len(set), s, x)
		}
	}
	back := added
	for _, g := range gaps {
		if sizeOf(t, set, g) != 0 {
			t.Errorf("%d spans and %v: the gap %v is in the set", len(set), s, g)
		}
		var code int64
		back, code = impl.SpanCut(back, g)
		wantCode(t, "cutting a gap", code, impl.OK)
	}
	if !sameSpans(back, set) {
		t.Errorf("%d spans and %v: cutting the gaps out again leaves %d spans", len(set), s, len(back))
	}
}

func sizeOf(t *testing.T, set []impl.Span, s impl.Span) uint64 {
	t.Helper()
	size, code := impl.SpanSize(set, s)
	wantCode(t, "SpanSize", code, impl.OK)
	return size
}

// everySpanCall hands the same arguments to all five and tells their codes and whether anything else was answered.
func everySpanCall(set []impl.Span, s impl.Span) ([5]int64, bool) {
	a, code1 := impl.SpanAdd(set, s)
	b, code2 := impl.SpanCut(set, s)
	c, code3 := impl.SpanGaps(set, s)
	d, code4 := impl.SpanHas(set, s)
	e, code5 := impl.SpanSize(set, s)
	return [5]int64{code1, code2, code3, code4, code5}, len(a)+len(b)+len(c) > 0 || d != 0 || e != 0
}

func TestSpanForm(t *testing.T) {
	whole := impl.Span{Lo: 0, Hi: topOffset}
	tooMany := make([]impl.Span, impl.MaxSpans+1)
	for i := range tooMany {
		tooMany[i] = impl.Span{Lo: uint64(2 * i), Hi: uint64(2*i + 1)}
	}
	for _, r := range []struct {
		what string
		set  []impl.Span
		s    impl.Span
	}{
		{"s turned round", nil, impl.Span{Lo: 1, Hi: 0}},
		{"s turned round at the end", []impl.Span{{Lo: 1, Hi: 2}}, impl.Span{Lo: topOffset, Hi: topOffset - 1}},
		{"an empty span in the set", []impl.Span{{Lo: 3, Hi: 3}}, whole},
		{"an empty span at 0 in the set", []impl.Span{{}}, impl.Span{}},
		{"an empty span behind another", []impl.Span{{Lo: 1, Hi: 2}, {Lo: 4, Hi: 4}}, whole},
		{"a span turned round", []impl.Span{{Lo: 3, Hi: 2}}, whole},
		{"spans that touch", []impl.Span{{Lo: 1, Hi: 2}, {Lo: 2, Hi: 3}}, whole},
		{"spans that overlap", []impl.Span{{Lo: 1, Hi: 5}, {Lo: 4, Hi: 6}}, impl.Span{}},
		{"the same span twice", []impl.Span{{Lo: 1, Hi: 2}, {Lo: 1, Hi: 2}}, impl.Span{}},
		{"falling spans", []impl.Span{{Lo: 4, Hi: 5}, {Lo: 1, Hi: 2}}, impl.Span{}},
		{"a fault at the end", []impl.Span{{Lo: 1, Hi: 2}, {Lo: 3, Hi: 4}, {Lo: 9, Hi: 8}}, impl.Span{Lo: 1, Hi: 2}},
		{"too many spans", tooMany, impl.Span{}},
		{"too many spans, all of them covered", tooMany, whole},
	} {
		codes, more := everySpanCall(r.set, r.s)
		if codes != [5]int64{impl.ErrForm, impl.ErrForm, impl.ErrForm, impl.ErrForm, impl.ErrForm} || more {
			t.Errorf("%s: codes %v, more %v", r.what, codes, more)
		}
	}
}

// fullSet has MaxSpans spans of three offsets: 10 to 13, 20 to 23 and so on.
func fullSet() []impl.Span {
	set := make([]impl.Span, impl.MaxSpans)
	for i := range set {
		lo := uint64(10 * (i + 1))
		set[i] = impl.Span{Lo: lo, Hi: lo + 3}
	}
	return set
}

func TestSpanLimit(t *testing.T) {
	whole := impl.Span{Lo: 0, Hi: topOffset}
	for _, r := range []struct {
		what string
		call func([]impl.Span, impl.Span) ([]impl.Span, int64)
		s    impl.Span
		want int64
		n    int
	}{
		{"add ahead of all", impl.SpanAdd, impl.Span{Lo: 0, Hi: 9}, impl.ErrLimit, 0},
		{"add behind all", impl.SpanAdd, impl.Span{Lo: topOffset - 1, Hi: topOffset}, impl.ErrLimit, 0},
		{"add between two", impl.SpanAdd, impl.Span{Lo: 14, Hi: 19}, impl.ErrLimit, 0},
		{"add nothing", impl.SpanAdd, impl.Span{Lo: 15, Hi: 15}, impl.OK, 1000},
		{"add what touches one", impl.SpanAdd, impl.Span{Lo: 13, Hi: 19}, impl.OK, 1000},
		{"add what touches two", impl.SpanAdd, impl.Span{Lo: 13, Hi: 20}, impl.OK, 999},
		{"add all", impl.SpanAdd, whole, impl.OK, 1},
		{"cut inside one", impl.SpanCut, impl.Span{Lo: 11, Hi: 12}, impl.ErrLimit, 0},
		{"cut nothing inside one", impl.SpanCut, impl.Span{Lo: 11, Hi: 11}, impl.OK, 1000},
		{"cut the head of one", impl.SpanCut, impl.Span{Lo: 0, Hi: 11}, impl.OK, 1000},
		{"cut one", impl.SpanCut, impl.Span{Lo: 10, Hi: 13}, impl.OK, 999},
		{"cut from one into the next", impl.SpanCut, impl.Span{Lo: 11, Hi: 21}, impl.OK, 1000},
		{"cut all", impl.SpanCut, whole, impl.OK, 0},
		{"gaps on both sides", impl.SpanGaps, impl.Span{Lo: 9, Hi: 10004}, impl.ErrLimit, 0},
		{"gaps on the left", impl.SpanGaps, impl.Span{Lo: 9, Hi: 10003}, impl.OK, 1000},
		{"gaps on the right", impl.SpanGaps, impl.Span{Lo: 10, Hi: 10004}, impl.OK, 1000},
		{"gaps between", impl.SpanGaps, impl.Span{Lo: 10, Hi: 10003}, impl.OK, 999},
	} {
		got, code := r.call(fullSet(), r.s)
		if code != r.want || len(got) != r.n {
			t.Errorf("%s: %d spans, code %d; want %d, code %d", r.what, len(got), code, r.n, r.want)
		}
	}
	size, code := impl.SpanSize(fullSet(), whole)
	has, code2 := impl.SpanHas(fullSet(), impl.Span{Lo: 10000, Hi: 10003})
	if size != 3000 || code != impl.OK || has != 1 || code2 != impl.OK {
		t.Errorf("size %d, code %d; has %d, code %d", size, code, has, code2)
	}
}

// mess writes over all the room of a list.
func mess(set []impl.Span) {
	set = set[:cap(set)]
	for i := range set {
		set[i] = impl.Span{Lo: 77, Hi: 78}
	}
}

func TestSpansKeepMemoryApart(t *testing.T) {
	for _, s := range []impl.Span{{}, {Lo: 14, Hi: 14}, {Lo: 11, Hi: 12}, {Lo: 12, Hi: 33}, {Lo: 23, Hi: 30}, {Lo: 100, Hi: 200}, {Lo: 0, Hi: 1000}} {
		for i, call := range []func([]impl.Span, impl.Span) ([]impl.Span, int64){impl.SpanAdd, impl.SpanCut, impl.SpanGaps} {
			set := fullSet()[:4]
			got, _ := call(set, s)
			if !sameSpans(set[:cap(set)], fullSet()) {
				t.Errorf("call %d with %v wrote into its list", i, s)
			}
			again, _ := call(fullSet()[:4], s)
			mess(set)
			if !sameSpans(got, again) {
				t.Errorf("call %d with %v: the answer shares the list", i, s)
			}
			set = fullSet()[:4]
			got, _ = call(set, s)
			mess(got)
			if !sameSpans(set[:cap(set)], fullSet()) {
				t.Errorf("call %d with %v: the list shares the answer", i, s)
			}
		}
		set := fullSet()[:4]
		impl.SpanHas(set, s)
		impl.SpanSize(set, s)
		if !sameSpans(set[:cap(set)], fullSet()) {
			t.Errorf("SpanHas or SpanSize with %v wrote into its list", s)
		}
	}
}
