package impl

import "math"

const MaxSpans = 1000

// Span is the offsets from Lo up to, but not including, Hi.
type Span struct {
	Lo uint64
	Hi uint64
}

// SerialDistance is how far b lies ahead of a on the circle.
func SerialDistance(a uint32, b uint32) int64 {
	return int64(int32(b - a))
}

// SerialLess tells whether b lies ahead of a.
func SerialLess(a uint32, b uint32) bool {
	return SerialDistance(a, b) > 0
}

// Lift finds the number near another that ends in s.
func Lift(near uint64, s uint32) (uint64, int64) {
	d := SerialDistance(uint32(near), s)
	if d < 0 {
		back := uint64(-d)
		if back > near {
			return 0, ErrRange
		}
		return near - back, OK
	}
	ahead := uint64(d)
	if ahead > math.MaxUint64-near {
		return 0, ErrRange
	}
	return near + ahead, OK
}

// SpanAdd joins a span to a set.
func SpanAdd(set []Span, s Span) ([]Span, int64) {
	if !spansHold(set, s) {
		return nil, ErrForm
	}
	if s.Lo == s.Hi {
		return copySpans(set), OK
	}
	// Spans that only touch s are taken in too: a set has a gap between any two.
	from := firstPlace(set, func(x Span) bool { return x.Hi >= s.Lo })
	to := firstPlace(set, func(x Span) bool { return x.Lo > s.Hi })
	joined := s
	if from < to {
		joined.Lo = min(s.Lo, set[from].Lo)
		joined.Hi = max(s.Hi, set[to-1].Hi)
	}
	out := copySpans(set[:from])
	out = append(out, joined)
	return limitSpans(append(out, set[to:]...))
}

// SpanCut takes a span out of a set.
func SpanCut(set []Span, s Span) ([]Span, int64) {
	if !spansHold(set, s) {
		return nil, ErrForm
	}
	from, to := overlap(set, s)
	// An empty span inside another would leave two that touch.
	if s.Lo == s.Hi || from == to {
		return copySpans(set), OK
	}
	out := copySpans(set[:from])
	if set[from].Lo < s.Lo {
		out = append(out, Span{Lo: set[from].Lo, Hi: s.Lo})
	}
	if s.Hi < set[to-1].Hi {
		out = append(out, Span{Lo: s.Hi, Hi: set[to-1].Hi})
	}
	return limitSpans(append(out, set[to:]...))
}

// SpanGaps is what a set lacks of a span.
func SpanGaps(set []Span, s Span) ([]Span, int64) {
	if !spansHold(set, s) {
		return nil, ErrForm
	}
	var out []Span
	at := s.Lo
	from, to := overlap(set, s)
	for _, x := range set[from:to] {
		if at < x.Lo {
			out = append(out, Span{Lo: at, Hi: x.Lo})
		}
		at = x.Hi
	}
	if at < s.Hi {
		out = append(out, Span{Lo: at, Hi: s.Hi})
	}
	return limitSpans(out)
}

// SpanHas tells whether a set holds all of a span.
func SpanHas(set []Span, s Span) (int64, int64) {
	size, code := SpanSize(set, s)
	if code != OK {
		return 0, code
	}
	if size == s.Hi-s.Lo {
		return 1, OK
	}
	return 0, OK
}

// SpanSize counts what a set holds of a span.
func SpanSize(set []Span, s Span) (uint64, int64) {
	if !spansHold(set, s) {
		return 0, ErrForm
	}
	size := uint64(0)
	from, to := overlap(set, s)
	for _, x := range set[from:to] {
		size += min(x.Hi, s.Hi) - max(x.Lo, s.Lo)
	}
	return size, OK
}

// firstPlace finds the first place of a sorted list that passes, or its length; where one passes, all behind it do.
func firstPlace[T any](list []T, passes func(T) bool) int {
	lo, hi := 0, len(list)
	for lo < hi {
		mid := lo + (hi-lo)/2
		if passes(list[mid]) {
			hi = mid
		} else {
			lo = mid + 1
		}
	}
	return lo
}

// overlap tells from which place up to which the spans of a set reach into s; from is never above to.
func overlap(set []Span, s Span) (int, int) {
	from := firstPlace(set, func(x Span) bool { return x.Hi > s.Lo })
	to := firstPlace(set, func(x Span) bool { return x.Lo >= s.Hi })
	return from, to
}

// spansHold tells whether a call on spans may go on.
func spansHold(set []Span, s Span) bool {
	return isSpanSet(set) && s.Lo <= s.Hi
}

// isSpanSet tells whether a list is a span set.
func isSpanSet(set []Span) bool {
	if len(set) > MaxSpans {
		return false
	}
	for i, x := range set {
		if x.Lo >= x.Hi || i > 0 && x.Lo <= set[i-1].Hi {
			return false
		}
	}
	return true
}

// limitSpans refuses a list that is too long for a span set.
func limitSpans(set []Span) ([]Span, int64) {
	if len(set) > MaxSpans {
		return nil, ErrLimit
	}
	return set, OK
}

// copySpans keeps an answer apart from an argument.
func copySpans(set []Span) []Span {
	return append([]Span(nil), set...)
}
