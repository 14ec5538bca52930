package tests

import (
	"fmt"
	"math"
	"math/rand"
	"reflect"
	"strconv"
	"testing"

	"loop.example/s03010/impl"
)

func TestNetNumbers(t *testing.T) {
	kinds := []int64{impl.NetSend, impl.NetDeliver, impl.NetDrop, impl.NetDup, impl.NetCut, impl.NetUp}
	for i, k := range kinds {
		if k != int64(i+1) {
			t.Errorf("kind %d of the chapter is %d", i+1, k)
		}
	}
	if impl.Forward != 0 || impl.Back != 1 || impl.NetCap != 64 || impl.MaxDatagram != 64 || impl.MaxEvents != 4000 {
		t.Error("a number of the chapter is wrong")
	}
}

func netSend(path, dir int64, data string) impl.NetEvent {
	return impl.NetEvent{Kind: impl.NetSend, Path: path, Dir: dir, Data: []byte(data)}
}

func netAt(kind, path, dir, index int64) impl.NetEvent {
	return impl.NetEvent{Kind: kind, Path: path, Dir: dir, Index: index}
}

// netModel is the network by the chapter's words: the bags' texts, by path and direction.
type netModel struct {
	paths int64
	cut   map[int64]bool
	bags  map[[2]int64][]string
}

func newNetModel(paths int64) *netModel {
	return &netModel{paths: paths, cut: map[int64]bool{}, bags: map[[2]int64][]string{}}
}

func (m *netModel) refusal(e impl.NetEvent) int64 {
	bag := m.bags[[2]int64{e.Path, e.Dir}]
	indexed := e.Kind == impl.NetDeliver || e.Kind == impl.NetDrop || e.Kind == impl.NetDup
	grows := e.Kind == impl.NetSend || e.Kind == impl.NetDup
	switch {
	case e.Kind < 1 || e.Kind > 6:
		return impl.ErrForm
	case e.Path < 0 || e.Path >= m.paths:
		return impl.ErrPath
	case e.Kind == impl.NetCut || e.Kind == impl.NetUp:
		return impl.OK
	case e.Dir != 0 && e.Dir != 1:
		return impl.ErrForm
	case e.Kind == impl.NetSend && len(e.Data) > 64:
		return impl.ErrSize
	case e.Kind == impl.NetSend && m.cut[e.Path]:
		return impl.ErrLost
	case indexed && (e.Index < 0 || e.Index >= int64(len(bag))):
		return impl.ErrIndex
	case grows && len(bag) == 64:
		return impl.ErrFull
	}
	return impl.OK
}

func (m *netModel) step(e impl.NetEvent) impl.NetOut {
	if code := m.refusal(e); code != impl.OK {
		return impl.NetOut{Code: code}
	}
	key := [2]int64{e.Path, e.Dir}
	bag := m.bags[key]
	switch e.Kind {
	case impl.NetSend:
		m.bags[key] = append(bag, string(e.Data))
	case impl.NetDup:
		m.bags[key] = append(bag, bag[e.Index])
	case impl.NetDeliver, impl.NetDrop:
		var rest []string
		for i, data := range bag {
			if int64(i) != e.Index {
				rest = append(rest, data)
			}
		}
		m.bags[key] = rest
		if e.Kind == impl.NetDeliver {
			return impl.NetOut{Data: []byte(bag[e.Index])}
		}
	case impl.NetCut:
		m.cut[e.Path] = true
		delete(m.bags, [2]int64{e.Path, 0})
		delete(m.bags, [2]int64{e.Path, 1})
	case impl.NetUp:
		m.cut[e.Path] = false
	}
	return impl.NetOut{}
}

func (m *netModel) flight() []impl.Bag {
	var bags []impl.Bag
	for path := range m.paths {
		for dir := range int64(2) {
			b := impl.Bag{Path: path, Dir: dir}
			if m.cut[path] {
				b.Cut = 1
			}
			for _, data := range m.bags[[2]int64{path, dir}] {
				b.Datagrams = append(b.Datagrams, []byte(data))
			}
			bags = append(bags, b)
		}
	}
	return bags
}

// wantNet holds both calls against the model.
func wantNet(t *testing.T, what string, paths int64, events []impl.NetEvent) {
	t.Helper()
	m := newNetModel(paths)
	var want []impl.NetOut
	for _, e := range events {
		want = append(want, m.step(e))
	}
	outs, code := impl.NetRun(paths, events)
	wantCode(t, what, code, impl.OK)
	if len(outs) != len(want) {
		t.Fatalf("%s: %d outs of %d events", what, len(outs), len(want))
	}
	for i := range want {
		if !sameValue(outs[i], want[i]) {
			t.Fatalf("%s: event %d, %v: %v, want %v", what, i, events[i], outs[i], want[i])
		}
	}
	bags, code := impl.NetFlight(paths, events)
	wantCode(t, what, code, impl.OK)
	if !sameValue(bags, m.flight()) {
		t.Fatalf("%s: in flight %v, want %v", what, bags, m.flight())
	}
	for _, b := range bags {
		if len(b.Datagrams) > impl.NetCap {
			t.Fatalf("%s: %d datagrams in a bag", what, len(b.Datagrams))
		}
	}
}

// someEvent is an event by chance; some have something wrong with them.
func someEvent(r *rand.Rand, paths int64, text string) impl.NetEvent {
	e := impl.NetEvent{Path: r.Int63n(paths), Dir: r.Int63n(2), Index: r.Int63n(6), Data: []byte(text)}
	switch k := r.Intn(40); {
	case k < 19:
		e.Kind = impl.NetSend
	case k < 25:
		e.Kind = impl.NetDeliver
	case k < 29:
		e.Kind = impl.NetDrop
	case k < 36:
		e.Kind = impl.NetDup
	default:
		e.Kind = impl.NetUp
	}
	switch r.Intn(300) {
	case 0, 1:
		e.Kind = impl.NetCut
	case 2:
		e.Kind = r.Int63n(12) - 3
	case 3:
		e.Path = r.Int63n(20) - 6
	case 4:
		e.Dir = r.Int63n(6) - 2
	case 5:
		e.Data = letters(60 + r.Intn(10))
	}
	if r.Intn(10) == 0 {
		e.Index = r.Int63n(80) - 5
	}
	return e
}

// Promise 6: every datagram has a text of its own, so that the model tells which one is meant.
func TestNetByChance(t *testing.T) {
	r := rand.New(rand.NewSource(31))
	for run := range 300 {
		paths := 1 + r.Int63n(8)
		if run%3 == 0 {
			paths = 1
		}
		events := make([]impl.NetEvent, r.Intn(600))
		for i := range events {
			events[i] = someEvent(r, paths, strconv.Itoa(i))
		}
		wantNet(t, fmt.Sprintf("run %d", run), paths, events)
	}
}

// Promise 6: a datagram is delivered from any place of a bag, whatever its place was when it was sent.
func TestNetPlaces(t *testing.T) {
	for n := range int64(7) {
		for first := int64(-1); first <= n; first++ {
			for second := int64(-1); second <= n; second++ {
				for _, kind := range []int64{impl.NetDeliver, impl.NetDrop, impl.NetDup} {
					var events []impl.NetEvent
					for i := range n {
						events = append(events, netSend(0, impl.Back, strconv.FormatInt(i, 10)))
					}
					events = append(events, netAt(kind, 0, impl.Back, first), netAt(impl.NetDeliver, 0, impl.Back, second))
					wantNet(t, fmt.Sprintf("kind %d at %d, then %d, of %d", kind, first, second, n), 1, events)
				}
			}
		}
	}
}

func netCodes(t *testing.T, paths int64, events []impl.NetEvent) []int64 {
	t.Helper()
	outs, code := impl.NetRun(paths, events)
	wantCode(t, "NetRun", code, impl.OK)
	var codes []int64
	for _, o := range outs {
		codes = append(codes, o.Code)
	}
	return codes
}

func TestNetFullBag(t *testing.T) {
	var full []impl.NetEvent
	for i := range impl.NetCap {
		full = append(full, netSend(1, impl.Forward, strconv.Itoa(i)))
	}
	for i, c := range netCodes(t, 2, full) {
		wantCode(t, fmt.Sprintf("send %d", i), c, impl.OK)
	}
	for _, r := range []struct {
		what string
		more []impl.NetEvent
		want int64
	}{
		{"one more", []impl.NetEvent{netSend(1, impl.Forward, "x")}, impl.ErrFull},
		{"an empty one more", []impl.NetEvent{netSend(1, impl.Forward, "")}, impl.ErrFull},
		{"one more, too long", []impl.NetEvent{netSend(1, impl.Forward, string(letters(65)))}, impl.ErrSize},
		{"doubling", []impl.NetEvent{netAt(impl.NetDup, 1, impl.Forward, 63)}, impl.ErrFull},
		{"doubling what is not there", []impl.NetEvent{netAt(impl.NetDup, 1, impl.Forward, 64)}, impl.ErrIndex},
		{"the other direction", []impl.NetEvent{netSend(1, impl.Back, "x")}, impl.OK},
		{"the other path", []impl.NetEvent{netSend(0, impl.Forward, "x")}, impl.OK},
		{"behind a delivery", []impl.NetEvent{netAt(impl.NetDeliver, 1, impl.Forward, 63), netSend(1, impl.Forward, "x")}, impl.OK},
		{"doubling behind a drop", []impl.NetEvent{netAt(impl.NetDrop, 1, impl.Forward, 0), netAt(impl.NetDup, 1, impl.Forward, 62)}, impl.OK},
		{"the last of a full bag", []impl.NetEvent{netAt(impl.NetDeliver, 1, impl.Forward, 63)}, impl.OK},
		{"behind the last of a full bag", []impl.NetEvent{netAt(impl.NetDeliver, 1, impl.Forward, 64)}, impl.ErrIndex},
	} {
		events := append(append([]impl.NetEvent(nil), full...), r.more...)
		codes := netCodes(t, 2, events)
		wantCode(t, r.what, codes[len(codes)-1], r.want)
		wantNet(t, r.what, 2, events)
	}
}

func TestNetSizes(t *testing.T) {
	for n := range 70 {
		want := int64(impl.OK)
		if n > impl.MaxDatagram {
			want = impl.ErrSize
		}
		events := []impl.NetEvent{netSend(0, impl.Forward, string(letters(n))), netAt(impl.NetDeliver, 0, impl.Forward, 0)}
		outs, _ := impl.NetRun(1, events)
		wantCode(t, fmt.Sprintf("%d bytes", n), outs[0].Code, want)
		if len(outs[0].Data) != 0 || want == impl.OK && string(outs[1].Data) != string(letters(n)) || want != impl.OK && outs[1].Code != impl.ErrIndex {
			t.Errorf("%d bytes: %v", n, outs)
		}
	}
	wantNet(t, "nil", 1, []impl.NetEvent{{Kind: impl.NetSend}, {Kind: impl.NetDup}, {Kind: impl.NetDeliver}})
}

// A cut empties both bags and loses what is sent; nothing comes back when the path is up again.
func TestNetCut(t *testing.T) {
	events := []impl.NetEvent{
		netSend(0, impl.Forward, "a"), netSend(1, impl.Forward, "b"), netSend(1, impl.Back, "c"), netSend(2, impl.Back, "d"),
		netAt(impl.NetCut, 1, 7, -9),
		netSend(1, impl.Forward, "e"), netSend(1, impl.Back, "f"), netSend(1, impl.Back, string(letters(65))), netSend(0, impl.Back, "g"),
		netAt(impl.NetDeliver, 1, impl.Forward, 0), netAt(impl.NetDrop, 1, impl.Back, 0), netAt(impl.NetDup, 1, impl.Forward, 0),
		netAt(impl.NetCut, 1, 0, 0), netAt(impl.NetUp, 1, -1, 99),
		netAt(impl.NetDeliver, 1, impl.Back, 0), netSend(1, impl.Back, "h"), netAt(impl.NetUp, 1, 0, 0), netAt(impl.NetDeliver, 1, impl.Back, 0),
		netSend(1, impl.Forward, "i"), netAt(impl.NetCut, 0, 0, 0),
	}
	want := []int64{0, 0, 0, 0, 0, impl.ErrLost, impl.ErrLost, impl.ErrSize, 0, impl.ErrIndex, impl.ErrIndex, impl.ErrIndex, 0, 0, impl.ErrIndex, 0, 0, 0, 0, 0}
	if got := netCodes(t, 3, events); !reflect.DeepEqual(got, want) {
		t.Errorf("codes %v, want %v", got, want)
	}
	for n := range events {
		wantNet(t, fmt.Sprintf("the first %d events", n), 3, events[:n+1])
	}
	bags, _ := impl.NetFlight(3, events)
	left := []impl.Bag{
		{Path: 0, Dir: 0, Cut: 1}, {Path: 0, Dir: 1, Cut: 1},
		{Path: 1, Dir: 0, Datagrams: [][]byte{[]byte("i")}}, {Path: 1, Dir: 1},
		{Path: 2, Dir: 0}, {Path: 2, Dir: 1, Datagrams: [][]byte{[]byte("d")}},
	}
	if !sameValue(bags, left) {
		t.Errorf("in flight %v, want %v", bags, left)
	}
}

func TestNetErrorOrder(t *testing.T) {
	long := string(letters(65))
	start := []impl.NetEvent{netSend(0, impl.Forward, "a"), netAt(impl.NetCut, 1, 0, 0)}
	for _, r := range []struct {
		what string
		e    impl.NetEvent
		want int64
	}{
		{"no kind, no path, no direction", impl.NetEvent{Kind: 7, Path: 2, Dir: 2, Index: 9}, impl.ErrForm},
		{"kind 0", impl.NetEvent{}, impl.ErrForm},
		{"kind 0 on no path", impl.NetEvent{Path: -1}, impl.ErrForm},
		{"kind below 0", impl.NetEvent{Kind: math.MinInt64}, impl.ErrForm},
		{"kind far above", impl.NetEvent{Kind: math.MaxInt64}, impl.ErrForm},
		{"kind that is a send in 32 bits", impl.NetEvent{Kind: 1<<32 + 1}, impl.ErrForm},
		{"no path, no direction", netAt(impl.NetDeliver, 2, 2, 9), impl.ErrPath},
		{"path below 0, no direction, too long", impl.NetEvent{Kind: impl.NetSend, Path: -1, Dir: -1, Data: []byte(long)}, impl.ErrPath},
		{"path far below", netAt(impl.NetDup, math.MinInt64, 0, 0), impl.ErrPath},
		{"path far above", netAt(impl.NetDrop, math.MaxInt64, 0, 0), impl.ErrPath},
		{"a cut of no path", netAt(impl.NetCut, 2, 0, 0), impl.ErrPath},
		{"an up of no path", netAt(impl.NetUp, -1, 0, 0), impl.ErrPath},
		{"no direction, too long", netSend(0, 2, long), impl.ErrForm},
		{"no direction, too long, cut", netSend(1, -1, long), impl.ErrForm},
		{"no direction, no place", netAt(impl.NetDeliver, 0, math.MaxInt64, 9), impl.ErrForm},
		{"no direction, no place, drop", netAt(impl.NetDrop, 0, math.MinInt64, -1), impl.ErrForm},
		{"no direction, no place, dup", netAt(impl.NetDup, 0, 1<<32, 1), impl.ErrForm},
		{"too long, cut", netSend(1, impl.Back, long), impl.ErrSize},
		{"cut", netSend(1, impl.Back, "a"), impl.ErrLost},
		{"the place at the bag's size", netAt(impl.NetDeliver, 0, impl.Forward, 1), impl.ErrIndex},
		{"the place below 0", netAt(impl.NetDrop, 0, impl.Forward, -1), impl.ErrIndex},
		{"a place that is 0 in 32 bits", netAt(impl.NetDup, 0, impl.Forward, 1<<32), impl.ErrIndex},
		{"a place far above", netAt(impl.NetDup, 0, impl.Forward, math.MaxInt64), impl.ErrIndex},
		{"a place far below", netAt(impl.NetDeliver, 0, impl.Forward, math.MinInt64), impl.ErrIndex},
		{"an empty bag", netAt(impl.NetDup, 0, impl.Back, 0), impl.ErrIndex},
		{"data means nothing to a drop", impl.NetEvent{Kind: impl.NetDrop, Data: []byte(long)}, impl.OK},
		{"data means nothing to a cut", impl.NetEvent{Kind: impl.NetCut, Dir: 5, Data: []byte(long)}, impl.OK},
		{"the place means nothing to a send", impl.NetEvent{Kind: impl.NetSend, Index: -7}, impl.OK},
	} {
		events := append(append([]impl.NetEvent(nil), start...), r.e)
		outs, _ := impl.NetRun(2, events)
		wantCode(t, r.what, outs[2].Code, r.want)
		if len(outs[2].Data) != 0 {
			t.Errorf("%s: data %v", r.what, outs[2].Data)
		}
		wantNet(t, r.what, 2, events)
	}
}

func TestNetRefuses(t *testing.T) {
	for _, r := range []struct {
		what  string
		paths int64
		n     int
		want  int64
	}{
		{"no path", 0, 0, impl.ErrPath}, {"a path below 0", -1, 3, impl.ErrPath}, {"nine paths", 9, 3, impl.ErrPath},
		{"far above", math.MaxInt64, 0, impl.ErrPath}, {"far below", math.MinInt64, 0, impl.ErrPath}, {"1 in 32 bits", 1<<32 + 1, 0, impl.ErrPath},
		{"no path and too many events", 0, 4001, impl.ErrPath}, {"nine paths and too many events", 9, 4001, impl.ErrPath},
		{"too many events", 1, 4001, impl.ErrLimit}, {"too many events on eight paths", 8, 5000, impl.ErrLimit},
		{"just as many", 1, 4000, impl.OK}, {"none", 8, 0, impl.OK},
	} {
		events := make([]impl.NetEvent, r.n)
		for i := range events {
			events[i] = impl.NetEvent{Kind: impl.NetSend, Data: []byte{1}}
		}
		outs, code := impl.NetRun(r.paths, events)
		bags, code2 := impl.NetFlight(r.paths, events)
		wantCode(t, r.what, code, r.want)
		wantCode(t, r.what, code2, r.want)
		if r.want != impl.OK && len(outs)+len(bags) > 0 {
			t.Errorf("%s: %d outs, %d bags", r.what, len(outs), len(bags))
		}
		if r.want == impl.OK && (len(outs) != r.n || len(bags) != int(2*r.paths)) {
			t.Errorf("%s: %d outs, %d bags", r.what, len(outs), len(bags))
		}
	}
}

// roomyEvents are events whose lists have room to spare, so that writing behind their ends is seen.
func roomyEvents() []impl.NetEvent {
	events := []impl.NetEvent{
		{Kind: impl.NetSend, Data: letters(9)[:4]}, {Kind: impl.NetSend, Data: letters(8)[:3]}, {Kind: impl.NetDup}, {Kind: impl.NetDup, Index: 1},
		{Kind: impl.NetDeliver, Index: 2}, {Kind: impl.NetSend, Data: letters(64)[:64]}, {Kind: impl.NetDeliver}, {Kind: impl.NetDup}, {Kind: impl.NetDup},
		{Kind: impl.NetDrop, Index: 1}, {Kind: impl.NetSend, Dir: impl.Back, Data: letters(5)[:1]}, {Kind: impl.NetSend, Data: letters(5)[:0]},
		{Kind: impl.NetSend, Data: letters(5)[:2]}, {Kind: impl.NetSend, Data: letters(5)[:2]},
	}
	return events[:len(events)-1]
}

func TestNetKeepsMemoryApart(t *testing.T) {
	events := roomyEvents()
	outs, code := impl.NetRun(2, events)
	wantCode(t, "NetRun", code, impl.OK)
	wantApart(t, "NetRun", outs, events)
	bags, code := impl.NetFlight(2, events)
	wantCode(t, "NetFlight", code, impl.OK)
	wantApart(t, "NetFlight", bags, events)
	all, fresh := events[:cap(events)], roomyEvents()
	fresh = fresh[:cap(fresh)]
	for i := range all {
		a, b := all[i].Data, fresh[i].Data
		if string(a[:cap(a)]) != string(b[:cap(b)]) {
			t.Errorf("the data of event %d was written into", i)
		}
	}
	if !reflect.DeepEqual(all, fresh) {
		t.Error("the events were written into")
	}
	again, _ := impl.NetRun(2, events)
	if !sameValue(again, outs) {
		t.Error("a second call answers something else")
	}
}
