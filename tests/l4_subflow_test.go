package tests

import (
	"fmt"
	"math"
	"math/rand"
	"reflect"
	"testing"

	"loop.example/s03010/impl"
)

func TestSubNumbers(t *testing.T) {
	got := []int64{impl.SubSend, impl.SubAck, impl.SubTick, impl.SentFirst, impl.SentAgain, impl.SentProbe,
		impl.MaxWindow, impl.TopRto, impl.TopMaxRto, impl.TopDeadAfter, impl.TopProbe}
	if want := []int64{1, 2, 3, 1, 2, 3, 16, 50, 400, 8, 50}; !reflect.DeepEqual(got, want) {
		t.Errorf("the numbers of the chapter are %v, want %v", got, want)
	}
}

func subSend(tag int64) impl.SubEvent {
	return impl.SubEvent{Kind: impl.SubSend, Tag: tag, Seq: 99}
}

func subAck(seq uint32) impl.SubEvent {
	return impl.SubEvent{Kind: impl.SubAck, Seq: seq, Tag: -5}
}

func subTicks(n int64) []impl.SubEvent {
	events := make([]impl.SubEvent, n)
	for i := range events {
		events[i] = impl.SubEvent{Kind: impl.SubTick, Tag: 3, Seq: 4}
	}
	return events
}

// subSends are n frames with tags from 100 on.
func subSends(n int64) []impl.SubEvent {
	var events []impl.SubEvent
	for i := range n {
		events = append(events, subSend(100+i))
	}
	return events
}

func inTurn(lists ...[]impl.SubEvent) []impl.SubEvent {
	var all []impl.SubEvent
	for _, l := range lists {
		all = append(all, l...)
	}
	return all
}

// subModel is a sender by the chapter's words, told otherwise: all tags that were ever taken, and moments instead of counters.
type subModel struct {
	cfg      impl.SubConfig
	taken    []int64
	acked    int
	now      int64
	due      int64
	probeDue int64
	timeouts int64
	dead     bool
}

func (m *subModel) seq(place int) uint32 {
	return uint32((uint64(m.cfg.Isn) + uint64(place)) % (1 << 32))
}

func (m *subModel) rto() int64 {
	doublings := m.timeouts
	if m.dead {
		doublings--
	}
	return min(m.cfg.Rto<<doublings, m.cfg.MaxRto)
}

func (m *subModel) open() int {
	return len(m.taken) - m.acked
}

func (m *subModel) allAgain() []impl.SubFrame {
	var frames []impl.SubFrame
	for i := m.acked; i < len(m.taken); i++ {
		frames = append(frames, impl.SubFrame{Kind: impl.SentAgain, Seq: m.seq(i), Tag: m.taken[i]})
	}
	return frames
}

func (m *subModel) step(e impl.SubEvent) impl.SubOut {
	switch e.Kind {
	case impl.SubSend:
		return m.send(e.Tag)
	case impl.SubAck:
		return m.ack(e.Seq)
	case impl.SubTick:
		return m.tick()
	}
	return impl.SubOut{Code: impl.ErrForm}
}

func (m *subModel) send(tag int64) impl.SubOut {
	if m.dead {
		return impl.SubOut{Code: impl.ErrDead}
	}
	if int64(m.open()) == m.cfg.Window {
		return impl.SubOut{Code: impl.ErrFull}
	}
	if m.due == 0 {
		m.due = m.now + m.rto()
	}
	m.taken = append(m.taken, tag)
	return impl.SubOut{Frames: []impl.SubFrame{{Kind: impl.SentFirst, Seq: m.seq(len(m.taken) - 1), Tag: tag}}}
}

func (m *subModel) ack(seq uint32) impl.SubOut {
	k := (int64(seq) - int64(m.seq(m.acked)) + 1<<32) % (1 << 32)
	if k > int64(m.open()) {
		return impl.SubOut{Code: impl.ErrStale}
	}
	out := impl.SubOut{Acked: append([]int64(nil), m.taken[m.acked:m.acked+int(k)]...)}
	m.acked += int(k)
	if k == 0 && !m.dead {
		return out
	}
	if m.dead {
		m.dead = false
		out.Revived = 1
		out.Frames = m.allAgain()
	}
	m.timeouts = 0
	m.due = 0
	if m.open() > 0 {
		m.due = m.now + m.cfg.Rto
	}
	return out
}

func (m *subModel) tick() impl.SubOut {
	m.now++
	if m.dead && m.now == m.probeDue {
		m.probeDue = m.now + m.cfg.ProbeEvery
		return impl.SubOut{Frames: []impl.SubFrame{{Kind: impl.SentProbe, Seq: m.seq(m.acked)}}}
	}
	if m.dead || m.due != m.now {
		return impl.SubOut{}
	}
	m.timeouts++
	if m.timeouts == m.cfg.DeadAfter {
		m.dead = true
		m.due = 0
		m.probeDue = m.now + m.cfg.ProbeEvery
		return impl.SubOut{Died: 1}
	}
	m.due = m.now + m.rto()
	return impl.SubOut{Frames: m.allAgain()}
}

func (m *subModel) view() impl.SubView {
	v := impl.SubView{Base: m.seq(m.acked), Next: m.seq(len(m.taken)), Tags: m.taken[m.acked:], Rto: m.rto(), Count: m.timeouts}
	if m.due > 0 {
		v.Timer = m.due - m.now
	}
	if m.dead {
		v.Dead = 1
		v.Probe = m.probeDue - m.now
	}
	return v
}

// wantSub holds both calls against the model and tells the outs.
func wantSub(t *testing.T, what string, cfg impl.SubConfig, events []impl.SubEvent) []impl.SubOut {
	t.Helper()
	m := &subModel{cfg: cfg}
	outs, code := impl.SubRun(cfg, events)
	wantCode(t, what, code, impl.OK)
	if len(outs) != len(events) {
		t.Fatalf("%s: %d outs of %d events", what, len(outs), len(events))
	}
	for i, e := range events {
		if want := m.step(e); !sameValue(outs[i], want) {
			t.Fatalf("%s: event %d, %v: %v, want %v", what, i, e, outs[i], want)
		}
	}
	v, code := impl.SubState(cfg, events)
	wantCode(t, what, code, impl.OK)
	if !sameValue(v, m.view()) {
		t.Fatalf("%s: view %v, want %v", what, v, m.view())
	}
	return outs
}

// someIsn is a number by chance, often just ahead of 2^32 - 1.
func someIsn(r *rand.Rand) uint32 {
	if r.Intn(3) == 0 {
		return r.Uint32()
	}
	return -uint32(r.Intn(12))
}

func someSubConfig(r *rand.Rand) impl.SubConfig {
	cfg := impl.SubConfig{Isn: someIsn(r), Window: 1 + r.Int63n(6), Rto: 1 + r.Int63n(4), DeadAfter: 1 + r.Int63n(4), ProbeEvery: 1 + r.Int63n(4)}
	cfg.MaxRto = cfg.Rto + r.Int63n(12)
	return cfg
}

// someSubEvents are events by chance; the acknowledgements lie about what is outstanding then.
func someSubEvents(r *rand.Rand, cfg impl.SubConfig) []impl.SubEvent {
	m := &subModel{cfg: cfg}
	events := make([]impl.SubEvent, r.Intn(150))
	for i := range events {
		e := impl.SubEvent{Kind: impl.SubTick, Tag: r.Int63() - r.Int63(), Seq: r.Uint32()}
		switch k := r.Intn(20); {
		case k < 6:
			e.Kind = impl.SubSend
		case k < 8:
			e.Kind = impl.SubAck
			e.Seq = m.seq(m.acked) + uint32(r.Intn(m.open()+5)) - 2
		case k == 8 && r.Intn(4) == 0:
			e.Kind = r.Int63n(9) - 2
		}
		m.step(e)
		events[i] = e
	}
	return events
}

func TestSubByChance(t *testing.T) {
	r := rand.New(rand.NewSource(41))
	for run := range 6000 {
		cfg := someSubConfig(r)
		wantSub(t, fmt.Sprintf("run %d, %v", run, cfg), cfg, someSubEvents(r, cfg))
	}
}

// pathRun drives a sender and a receiver by calls that begin anew each time, since nothing is kept between two.
type pathRun struct {
	cfg      impl.SubConfig
	events   []impl.SubEvent
	seqs     []uint32
	given    []int64
	tagOf    map[uint32]int64
	accepted []int64
	acked    []int64
	air      []impl.SubFrame
	waits    uint32
}

func (p *pathRun) event(t *testing.T, e impl.SubEvent) impl.SubOut {
	t.Helper()
	p.events = append(p.events, e)
	outs, code := impl.SubRun(p.cfg, p.events)
	wantCode(t, "SubRun", code, impl.OK)
	out := outs[len(outs)-1]
	if e.Kind == impl.SubSend && out.Code == impl.OK {
		p.given = append(p.given, e.Tag)
		p.tagOf[out.Frames[0].Seq] = e.Tag
	}
	p.air = append(p.air, out.Frames...)
	p.acked = append(p.acked, out.Acked...)
	return out
}

// land lets the next frame in the air be lost, or be taken once or more.
func (p *pathRun) land(t *testing.T, times int) {
	t.Helper()
	f := p.air[0]
	p.air = p.air[1:]
	if f.Kind == impl.SentProbe {
		return
	}
	if p.tagOf[f.Seq] != f.Tag {
		t.Fatalf("frame %v carries another tag than at first, %d", f, p.tagOf[f.Seq])
	}
	for range times {
		p.seqs = append(p.seqs, f.Seq)
		outs, code := impl.RecvRun(p.cfg.Isn, p.seqs)
		wantCode(t, "RecvRun", code, impl.OK)
		last := outs[len(outs)-1]
		p.waits = last.Ack
		if last.Accepted == 1 {
			p.accepted = append(p.accepted, f.Tag)
		}
	}
}

func (p *pathRun) check(t *testing.T, what string) {
	t.Helper()
	if len(p.accepted) > len(p.given) || !sameValue(p.accepted, p.given[:len(p.accepted)]) {
		t.Fatalf("%s: accepted %v of %v", what, p.accepted, p.given)
	}
	if len(p.acked) > len(p.given) || !sameValue(p.acked, p.given[:len(p.acked)]) {
		t.Fatalf("%s: acknowledged %v of %v", what, p.acked, p.given)
	}
	if p.waits != p.cfg.Isn+uint32(len(p.accepted)) {
		t.Fatalf("%s: waits for %d after %d frames", what, p.waits, len(p.accepted))
	}
}

// Promise 7, and that a path which loses nothing any more brings all to the receiver.
func TestPathInOrder(t *testing.T) {
	r := rand.New(rand.NewSource(42))
	for run := range 120 {
		cfg := someSubConfig(r)
		p := &pathRun{cfg: cfg, tagOf: map[uint32]int64{}, waits: cfg.Isn}
		wild := run%4 == 0
		what := fmt.Sprintf("run %d, %v", run, cfg)
		for step := range 120 {
			switch k := r.Intn(10); {
			case k < 3:
				p.event(t, subSend(int64(1000+step)))
			case k < 6 && len(p.air) > 0:
				p.land(t, r.Intn(3))
			case k < 8:
				p.event(t, subTicks(1)[0])
			case wild:
				p.event(t, subAck(p.waits+uint32(r.Intn(8))-3))
			case r.Intn(2) == 0:
				p.event(t, subAck(p.waits))
			}
			p.check(t, what)
		}
		if !wild {
			finishPath(t, what, p)
		}
	}
}

func finishPath(t *testing.T, what string, p *pathRun) {
	t.Helper()
	for range 3 * p.cfg.MaxRto {
		for len(p.air) > 0 {
			p.land(t, 1)
		}
		p.event(t, subAck(p.waits))
		p.event(t, subTicks(1)[0])
		p.check(t, what)
	}
	if len(p.accepted) != len(p.given) || len(p.acked) != len(p.given) {
		t.Fatalf("%s: of %d frames %d accepted, %d acknowledged", what, len(p.given), len(p.accepted), len(p.acked))
	}
}

// silence is what promise 8 lets be seen of a sender that hears nothing: the ticks of its timeouts, the last of which is its death.
func silence(cfg impl.SubConfig) []int64 {
	var ticks []int64
	wait, at := cfg.Rto, cfg.Rto
	for range cfg.DeadAfter {
		ticks = append(ticks, at)
		wait = min(2*wait, cfg.MaxRto)
		at += wait
	}
	return ticks
}

// Promise 8, up to the fourth probe.
func TestSilence(t *testing.T) {
	for _, rto := range []int64{1, 2, 3, 7, 49, 50} {
		for _, top := range []int64{rto, rto + 1, 2*rto - 1, 2 * rto, 3 * rto, 5 * rto, 399, 400} {
			for deadAfter := range int64(impl.TopDeadAfter) {
				for _, n := range []int64{1, 2, 16} {
					cfg := impl.SubConfig{Isn: math.MaxUint32 - uint32(n/2), Window: impl.MaxWindow, Rto: rto, MaxRto: max(rto, min(top, 400)), DeadAfter: deadAfter + 1, ProbeEvery: 1 + (rto*deadAfter+n)%impl.TopProbe}
					checkSilence(t, cfg, n)
				}
			}
		}
	}
}

func checkSilence(t *testing.T, cfg impl.SubConfig, n int64) {
	t.Helper()
	what := fmt.Sprintf("%v with %d frames", cfg, n)
	timeouts := silence(cfg)
	death := timeouts[len(timeouts)-1]
	outs := wantSub(t, what, cfg, inTurn(subSends(n), subTicks(death+4*cfg.ProbeEvery)))[n:]
	var all []impl.SubFrame
	for i := range n {
		all = append(all, impl.SubFrame{Kind: impl.SentAgain, Seq: cfg.Isn + uint32(i), Tag: 100 + i})
	}
	isTimeout := map[int64]bool{}
	for _, at := range timeouts {
		isTimeout[at] = true
	}
	for i, out := range outs {
		want := impl.SubOut{}
		switch at := int64(i + 1); {
		case at == death:
			want.Died = 1
		case isTimeout[at]:
			want.Frames = all
		case at > death && (at-death)%cfg.ProbeEvery == 0:
			want.Frames = []impl.SubFrame{{Kind: impl.SentProbe, Seq: cfg.Isn}}
		}
		if !sameValue(out, want) {
			t.Fatalf("%s: tick %d: %v, want %v", what, i+1, out, want)
		}
	}
}

func subView(t *testing.T, cfg impl.SubConfig, events []impl.SubEvent) impl.SubView {
	t.Helper()
	v, code := impl.SubState(cfg, events)
	wantCode(t, "SubState", code, impl.OK)
	return v
}

// wantStep asks what the last of the events brings and what the sender knows then.
func wantStep(t *testing.T, what string, cfg impl.SubConfig, events []impl.SubEvent, out impl.SubOut, v impl.SubView) {
	t.Helper()
	outs := wantSub(t, what, cfg, events)
	if got := outs[len(outs)-1]; !sameValue(got, out) {
		t.Errorf("%s: %v, want %v", what, got, out)
	}
	if got := subView(t, cfg, events); !sameValue(got, v) {
		t.Errorf("%s: view %v, want %v", what, got, v)
	}
}

// wrapConfig is a sender whose third frame has the number 0.
var wrapConfig = impl.SubConfig{Isn: math.MaxUint32 - 1, Window: 4, Rto: 3, MaxRto: 5, DeadAfter: 2, ProbeEvery: 4}

func TestSubWindow(t *testing.T) {
	cfg := wrapConfig
	wantStep(t, "the last that fits", cfg, subSends(4),
		impl.SubOut{Frames: []impl.SubFrame{{Kind: impl.SentFirst, Seq: 1, Tag: 103}}},
		impl.SubView{Base: math.MaxUint32 - 1, Next: 2, Tags: []int64{100, 101, 102, 103}, Timer: 3, Rto: 3})
	wantStep(t, "one too many", cfg, subSends(5), impl.SubOut{Code: impl.ErrFull},
		impl.SubView{Base: math.MaxUint32 - 1, Next: 2, Tags: []int64{100, 101, 102, 103}, Timer: 3, Rto: 3})
	wantStep(t, "room again", cfg, inTurn(subSends(4), []impl.SubEvent{subAck(math.MaxUint32), subSend(7)}),
		impl.SubOut{Frames: []impl.SubFrame{{Kind: impl.SentFirst, Seq: 2, Tag: 7}}},
		impl.SubView{Base: math.MaxUint32, Next: 3, Tags: []int64{101, 102, 103, 7}, Timer: 3, Rto: 3})
	wantStep(t, "the same tag twice", cfg, []impl.SubEvent{subSend(math.MinInt64), subSend(math.MinInt64)},
		impl.SubOut{Frames: []impl.SubFrame{{Kind: impl.SentFirst, Seq: math.MaxUint32, Tag: math.MinInt64}}},
		impl.SubView{Base: math.MaxUint32 - 1, Next: 0, Tags: []int64{math.MinInt64, math.MinInt64}, Timer: 3, Rto: 3})
	for window := int64(1); window <= impl.MaxWindow; window++ {
		cfg.Window = window
		outs := wantSub(t, "a window", cfg, subSends(window+2))
		for i, o := range outs {
			want := int64(impl.OK)
			if int64(i) >= window {
				want = impl.ErrFull
			}
			wantCode(t, fmt.Sprintf("frame %d of a window of %d", i, window), o.Code, want)
		}
	}
}

// Only what acknowledges something, or the first frame, starts the timer anew.
func TestSubTimer(t *testing.T) {
	cfg := wrapConfig
	sends := subSends(2)
	again := []impl.SubFrame{{Kind: impl.SentAgain, Seq: math.MaxUint32 - 1, Tag: 100}, {Kind: impl.SentAgain, Seq: math.MaxUint32, Tag: 101}}
	view := impl.SubView{Base: math.MaxUint32 - 1, Next: 0, Tags: []int64{100, 101}, Timer: 1, Rto: 3}
	wantStep(t, "the tick before the timeout", cfg, inTurn(sends, subTicks(2)), impl.SubOut{}, view)
	wantStep(t, "a frame starts no timer that runs", cfg, inTurn(sends[:1], subTicks(2), sends[1:]),
		impl.SubOut{Frames: []impl.SubFrame{{Kind: impl.SentFirst, Seq: math.MaxUint32, Tag: 101}}}, view)
	wantStep(t, "an acknowledgement at Base", cfg, inTurn(sends, subTicks(2), []impl.SubEvent{subAck(math.MaxUint32 - 1)}), impl.SubOut{}, view)
	view.Timer, view.Rto, view.Count = 5, 5, 1
	wantStep(t, "the tick of the timeout", cfg, inTurn(sends, subTicks(3)), impl.SubOut{Frames: again}, view)
	view.Timer = 1
	wantStep(t, "the tick before the death", cfg, inTurn(sends, subTicks(7)), impl.SubOut{}, view)
	wantStep(t, "an acknowledgement at Base undoes no timeout", cfg, inTurn(sends, subTicks(7), []impl.SubEvent{subAck(math.MaxUint32 - 1)}), impl.SubOut{}, view)
	wantStep(t, "a frame undoes no timeout", cfg, inTurn(sends, subTicks(7), []impl.SubEvent{subSend(8)}),
		impl.SubOut{Frames: []impl.SubFrame{{Kind: impl.SentFirst, Seq: 0, Tag: 8}}},
		impl.SubView{Base: math.MaxUint32 - 1, Next: 1, Tags: []int64{100, 101, 8}, Timer: 1, Rto: 5, Count: 1})
	wantStep(t, "an acknowledgement of one undoes it", cfg, inTurn(sends, subTicks(7), []impl.SubEvent{subAck(math.MaxUint32)}),
		impl.SubOut{Acked: []int64{100}}, impl.SubView{Base: math.MaxUint32, Next: 0, Tags: []int64{101}, Timer: 3, Rto: 3})
	wantStep(t, "an acknowledgement of all stops the timer", cfg, inTurn(sends, subTicks(7), []impl.SubEvent{subAck(0)}),
		impl.SubOut{Acked: []int64{100, 101}}, impl.SubView{Rto: 3})
	wantStep(t, "nothing outstanding, nothing happens", cfg, inTurn(sends, []impl.SubEvent{subAck(0)}, subTicks(100)), impl.SubOut{}, impl.SubView{Rto: 3})
	view.Timer, view.Count, view.Probe, view.Dead = 0, 2, 4, 1
	wantStep(t, "the tick of the death", cfg, inTurn(sends, subTicks(8)), impl.SubOut{Died: 1}, view)
	wantStep(t, "nothing at all", cfg, subTicks(1), impl.SubOut{}, impl.SubView{Base: math.MaxUint32 - 1, Next: math.MaxUint32 - 1, Rto: 3})
	cfg.MaxRto = 3
	cfg.DeadAfter = 8
	wantStep(t, "MaxRto holds from the first timeout on", cfg, inTurn(sends, subTicks(6)), impl.SubOut{Frames: again},
		impl.SubView{Base: math.MaxUint32 - 1, Next: 0, Tags: []int64{100, 101}, Timer: 3, Rto: 3, Count: 2})
}

// Promise 8, the dead path: frames and stale numbers change nothing, each number from Base to Next revives it.
func TestSubDead(t *testing.T) {
	cfg := wrapConfig
	dead := inTurn(subSends(3), subTicks(8))
	view := impl.SubView{Base: math.MaxUint32 - 1, Next: 1, Tags: []int64{100, 101, 102}, Rto: 5, Count: 2, Probe: 4, Dead: 1}
	for _, r := range []struct {
		what string
		e    impl.SubEvent
		code int64
	}{
		{"a frame", subSend(9), impl.ErrDead},
		{"just below Base", subAck(math.MaxUint32 - 2), impl.ErrStale},
		{"just above Next", subAck(2), impl.ErrStale},
		{"half round", subAck(1<<31 - 2), impl.ErrStale},
		{"no kind", impl.SubEvent{Kind: 4}, impl.ErrForm},
	} {
		wantStep(t, r.what, cfg, inTurn(dead, []impl.SubEvent{r.e}), impl.SubOut{Code: r.code}, view)
	}
	for k := range 4 {
		for _, later := range []int64{0, 1, 3, 4, 5, 9} {
			seq := cfg.Isn + uint32(k)
			out := impl.SubOut{Revived: 1}
			v := impl.SubView{Base: seq, Next: 1, Rto: 3}
			for i := range 3 {
				if i < k {
					out.Acked = append(out.Acked, int64(100+i))
					continue
				}
				out.Frames = append(out.Frames, impl.SubFrame{Kind: impl.SentAgain, Seq: cfg.Isn + uint32(i), Tag: int64(100 + i)})
				v.Tags = append(v.Tags, int64(100+i))
				v.Timer = 3
			}
			events := inTurn(dead, subTicks(later), []impl.SubEvent{subAck(seq)})
			wantStep(t, fmt.Sprintf("revived by the number %d, %d ticks later", seq, later), cfg, events, out, v)
			wantSub(t, "dies again", cfg, inTurn(events, subSends(4), subTicks(60)))
		}
	}
	full := inTurn(subSends(4), subTicks(8), []impl.SubEvent{subSend(1)})
	outs := wantSub(t, "a full window of a dead path", cfg, full)
	wantCode(t, "a full window of a dead path", outs[len(outs)-1].Code, impl.ErrDead)
}

// Numbers about Base and Next while the path is alive.
func TestSubStale(t *testing.T) {
	for _, isn := range []uint32{0, 5, 1<<31 - 1, 1 << 31, math.MaxUint32 - 3, math.MaxUint32} {
		cfg := impl.SubConfig{Isn: isn, Window: 8, Rto: 4, MaxRto: 9, DeadAfter: 3, ProbeEvery: 2}
		start := inTurn(subSends(5), []impl.SubEvent{subAck(isn + 2)}, subTicks(1))
		before := subView(t, cfg, start)
		for _, d := range []int64{-1 << 31, -3, -2, -1, 0, 1, 2, 3, 4, 5, 1<<31 - 1} {
			what := fmt.Sprintf("Base %+d, Isn %d", d, isn)
			events := inTurn(start, []impl.SubEvent{subAck(isn + 2 + uint32(d))})
			outs := wantSub(t, what, cfg, events)
			last := outs[len(outs)-1]
			v := subView(t, cfg, events)
			if d < 0 || d > 3 {
				if !sameValue(last, impl.SubOut{Code: impl.ErrStale}) || !sameValue(v, before) {
					t.Errorf("%s: %v, %v", what, last, v)
				}
				continue
			}
			if last.Code != impl.OK || int64(len(last.Acked)) != d || last.Revived != 0 || v.Base != isn+2+uint32(d) || v.Next != isn+5 {
				t.Errorf("%s: %v, %v", what, last, v)
			}
		}
	}
}

// Numbers go round, far from the start too.
func TestSubLongRun(t *testing.T) {
	cfg := impl.SubConfig{Isn: math.MaxUint32 - 900, Window: 16, Rto: 50, MaxRto: 400, DeadAfter: 8, ProbeEvery: 50}
	var events []impl.SubEvent
	for i := range 2000 {
		events = append(events, subSend(int64(i)), subAck(cfg.Isn+uint32(i+1)))
	}
	wantSub(t, "4000 events", cfg, events)
	if v := subView(t, cfg, events); v.Base != 1099 || v.Next != 1099 || len(v.Tags) != 0 || v.Timer != 0 {
		t.Errorf("view %v", v)
	}
}

func TestSubKinds(t *testing.T) {
	before := subView(t, wrapConfig, subSends(2))
	for _, kind := range []int64{0, 4, -1, math.MinInt64, math.MaxInt64, 1<<32 + 1} {
		events := inTurn(subSends(2), []impl.SubEvent{{Kind: kind, Tag: 1, Seq: math.MaxUint32}})
		wantStep(t, fmt.Sprintf("kind %d", kind), wrapConfig, events, impl.SubOut{Code: impl.ErrForm}, before)
	}
}

func TestSubConfigs(t *testing.T) {
	least := impl.SubConfig{Window: 1, Rto: 1, MaxRto: 1, DeadAfter: 1, ProbeEvery: 1}
	most := impl.SubConfig{Isn: math.MaxUint32, Window: 16, Rto: 50, MaxRto: 400, DeadAfter: 8, ProbeEvery: 50}
	even := impl.SubConfig{Window: 4, Rto: 50, MaxRto: 50, DeadAfter: 2, ProbeEvery: 9}
	wrong := []impl.SubConfig{{}}
	for _, base := range []impl.SubConfig{least, most, even} {
		wantConfig(t, base, impl.OK)
		for _, x := range []int64{0, -1, math.MinInt64, math.MaxInt64, 401, 1<<32 + 1} {
			a, b, c, d, e := base, base, base, base, base
			a.Window, b.Rto, c.MaxRto, d.DeadAfter, e.ProbeEvery = x, x, x, x, x
			wrong = append(wrong, a, b, c, d, e)
		}
		a, b, c, d := base, base, base, base
		a.Window, b.Rto, c.DeadAfter, d.ProbeEvery = 17, 51, 9, 51
		wrong = append(wrong, a, b, c, d)
		a = base
		a.MaxRto = a.Rto - 1
		b = base
		b.Rto, b.MaxRto = 51, 51
		wrong = append(wrong, a, b)
	}
	for _, cfg := range wrong {
		wantConfig(t, cfg, impl.ErrConfig)
	}
}

// wantConfig asks for the code of a config, with nothing, just enough and too many events.
func wantConfig(t *testing.T, cfg impl.SubConfig, want int64) {
	t.Helper()
	for _, n := range []int64{0, 1, 4000, 4001} {
		code := want
		if code == impl.OK && n > impl.MaxEvents {
			code = impl.ErrLimit
		}
		events := subTicks(n)
		outs, got := impl.SubRun(cfg, events)
		v, got2 := impl.SubState(cfg, events)
		what := fmt.Sprintf("%v with %d events", cfg, n)
		wantCode(t, what, got, code)
		wantCode(t, what, got2, code)
		if code != impl.OK && (len(outs) > 0 || !sameValue(v, impl.SubView{})) {
			t.Errorf("%s: %d outs, view %v", what, len(outs), v)
		}
		if code == impl.OK && (int64(len(outs)) != n || v.Base != cfg.Isn || v.Next != cfg.Isn || v.Rto != cfg.Rto) {
			t.Errorf("%s: %d outs, view %v", what, len(outs), v)
		}
	}
}

func TestRecv(t *testing.T) {
	r := rand.New(rand.NewSource(43))
	for range 500 {
		isn := someIsn(r)
		seqs := make([]uint32, r.Intn(60))
		waits, taken := isn, uint32(0)
		var want []impl.RecvOut
		for i := range seqs {
			seqs[i] = isn + taken + uint32(r.Intn(5)) - 2
			if r.Intn(2) == 0 {
				seqs[i] = waits
			}
			o := impl.RecvOut{}
			if seqs[i] == isn+taken {
				o.Accepted = 1
				taken++
			}
			waits = isn + taken
			o.Ack = waits
			want = append(want, o)
		}
		outs, code := impl.RecvRun(isn, seqs)
		if code != impl.OK || !sameValue(outs, want) {
			t.Fatalf("from %d on %v: %v, code %d; want %v", isn, seqs, outs, code, want)
		}
	}
}

func TestRecvEdges(t *testing.T) {
	outs, code := impl.RecvRun(math.MaxUint32, []uint32{0, math.MaxUint32 - 1, math.MaxUint32, math.MaxUint32, 1, 0, 1<<31 + 1, 1})
	want := []impl.RecvOut{{Ack: math.MaxUint32}, {Ack: math.MaxUint32}, {Accepted: 1}, {}, {}, {Accepted: 1, Ack: 1}, {Ack: 1}, {Accepted: 1, Ack: 2}}
	if code != impl.OK || !sameValue(outs, want) {
		t.Errorf("%v, code %d", outs, code)
	}
	for _, n := range []int{0, 1, 3999, 4000, 4001, 5000} {
		seqs := make([]uint32, n)
		for i := range seqs {
			seqs[i] = uint32(i)
		}
		outs, code := impl.RecvRun(0, seqs)
		if n > impl.MaxEvents {
			if code != impl.ErrLimit || len(outs) != 0 {
				t.Errorf("%d numbers: %d outs, code %d", n, len(outs), code)
			}
			continue
		}
		if code != impl.OK || len(outs) != n || n > 0 && outs[n-1] != (impl.RecvOut{Accepted: 1, Ack: uint32(n)}) {
			t.Errorf("%d numbers: %d outs, code %d", n, len(outs), code)
		}
	}
}

func TestSubKeepsMemoryApart(t *testing.T) {
	build := func() []impl.SubEvent {
		events := inTurn(subSends(4), subTicks(3), []impl.SubEvent{subAck(math.MaxUint32), subSend(5)}, subTicks(9),
			[]impl.SubEvent{subAck(0), subSend(6), subSend(7)}, subTicks(3), []impl.SubEvent{subAck(2), subSend(8), subSend(9)}, subTicks(30), subSends(4))
		return events[:len(events)-4]
	}
	events := build()
	outs, code := impl.SubRun(wrapConfig, events)
	wantCode(t, "SubRun", code, impl.OK)
	wantApart(t, "SubRun", outs, events)
	v, code := impl.SubState(wrapConfig, events)
	wantCode(t, "SubState", code, impl.OK)
	wantApart(t, "SubState", v, events)
	fresh := build()
	if !reflect.DeepEqual(events[:len(events)+4], fresh[:len(fresh)+4]) {
		t.Error("the events were written into")
	}
	seqs := []uint32{3, 4, 4, 7, 5, 6}
	got, _ := impl.RecvRun(3, seqs[:4])
	wantApart(t, "RecvRun", got, seqs)
	if !reflect.DeepEqual(seqs, []uint32{3, 4, 4, 7, 5, 6}) {
		t.Error("the numbers were written into")
	}
	again, _ := impl.SubRun(wrapConfig, events)
	if !sameValue(again, outs) {
		t.Error("a second call answers something else")
	}
}
