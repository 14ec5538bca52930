package tests

import (
	"fmt"
	"math/rand"
	"regexp"
	"strconv"
	"strings"

	"loop.example/s03010/impl"
)

// lineForm is a row of the table of lines: the words behind the first as a pattern, and what they mean.
type lineForm struct {
	op      int64
	pattern *regexp.Regexp
	fill    func(c *impl.Command, words []string)
}

const (
	numberForm = ` (0|[1-9][0-9]{0,5})`
	dirForm    = ` ([fb])`
)

func lineFormOf(op int64, pattern string, fill func(c *impl.Command, words []string)) lineForm {
	return lineForm{op, regexp.MustCompile(`^(?:` + pattern + `)$`), fill}
}

func number(word string) int64 {
	x, err := strconv.ParseInt(word, 10, 64)
	if err != nil {
		panic(err)
	}
	return x
}

func dirOf(word string) int64 {
	return int64(strings.Index("fb", word))
}

func hexOf(word string) string {
	var data []byte
	for at := 0; at+1 < len(word); at += 2 {
		x, err := strconv.ParseUint(word[at:at+2], 16, 8)
		if err != nil {
			panic(err)
		}
		data = append(data, byte(x))
	}
	return string(data)
}

// lineForms is the table of lines by the chapter's words.
var lineForms = makeLineForms()

func makeLineForms() []lineForm {
	nothing := func(c *impl.Command, w []string) {}
	count := func(c *impl.Command, w []string) { c.N = number(w[1]) }
	path := func(c *impl.Command, w []string) { c.Path = number(w[1]) }
	place := func(c *impl.Command, w []string) { c.Path, c.Dir, c.Index = number(w[1]), dirOf(w[2]), number(w[3]) }
	forms := []lineForm{
		lineFormOf(1, `write ([!-~]+)`, func(c *impl.Command, w []string) { c.N, c.Data = int64(len(w[1])), w[1] }),
		lineFormOf(2, `fill`+numberForm+` ([!-~])`, func(c *impl.Command, w []string) { c.N, c.Data = number(w[1]), w[2] }),
		lineFormOf(3, `read`+numberForm, count),
		lineFormOf(14, `pick`+numberForm, count),
		lineFormOf(15, `inject`+numberForm+dirForm+` (-|(?:[0-9a-f]{2}){1,64})`, func(c *impl.Command, w []string) {
			c.Path, c.Dir, c.Data = number(w[1]), dirOf(w[2]), hexOf(w[3])
			c.N = int64(len(c.Data))
		}),
	}
	for op, word := range map[int64]string{4: "close", 5: "abort", 6: "tick", 7: "wtick", 8: "rtick", 17: "stat"} {
		forms = append(forms, lineFormOf(op, word, nothing))
	}
	for op, word := range map[int64]string{9: "deliver", 10: "drop", 11: "dup"} {
		forms = append(forms, lineFormOf(op, word+numberForm+dirForm+numberForm, place))
	}
	for op, word := range map[int64]string{12: "cut", 13: "up", 16: "fair"} {
		forms = append(forms, lineFormOf(op, word+numberForm, path))
	}
	return forms
}

func lineModel(line string) (impl.Command, int64) {
	if len(line) > 1000 {
		return impl.Command{}, impl.ErrLimit
	}
	for _, form := range lineForms {
		if words := form.pattern.FindStringSubmatch(line); words != nil {
			c := impl.Command{Op: form.op}
			form.fill(&c, words)
			return c, impl.OK
		}
	}
	return impl.Command{}, impl.ErrSyntax
}

// connModel is both ends by the chapter's words, on the models of the chapters before. It never forgets a byte of the stream, nor how much of it a mapping had.
type connModel struct {
	cfg       impl.Config
	net       *netModel
	sent      int64
	stream    []byte
	sizes     map[uint64]int64
	acked     uint64
	edge      uint64
	mapped    uint64
	closed    bool
	finMapped bool
	aborted   bool
	drops     int64
	turn      int64
	picks     []int64
	maps      []impl.Mapping
	subs      []*subModel
	waits     []uint32
	buffer    *reorderModel
	stopped   bool
	told      bool
	dropped   int64
}

func newConnModel(cfg impl.Config) *connModel {
	m := &connModel{cfg: cfg, net: newNetModel(cfg.Paths), sizes: map[uint64]int64{}, edge: uint64(cfg.RecvCap), buffer: newReorderModel(0, cfg.RecvCap)}
	for p := range cfg.Paths {
		isn := uint32((uint64(cfg.Isn) + uint64(p)) % (1 << 32))
		m.subs = append(m.subs, &subModel{cfg: impl.SubConfig{Isn: isn, Window: cfg.Window, Rto: cfg.Rto, MaxRto: cfg.MaxRto, DeadAfter: cfg.DeadAfter, ProbeEvery: cfg.ProbeEvery}})
		m.waits = append(m.waits, isn)
	}
	return m
}

func mark(yes bool) int64 {
	if yes {
		return 1
	}
	return 0
}

func (m *connModel) out(dir int64, f impl.Frame) {
	m.sent++
	m.net.step(impl.NetEvent{Kind: impl.NetSend, Path: f.Path, Dir: dir, Data: layDown(f)})
}

// goOut sends out the frames of a sender; their bytes are looked up in the stream.
func (m *connModel) goOut(p int64, frames []impl.SubFrame) {
	for _, f := range frames {
		frame := impl.Frame{Kind: impl.FrameProbe, Path: p, Seq: f.Seq}
		if f.Kind != impl.SentProbe {
			frame.Offset = uint64(f.Tag)
			frame.Payload = m.stream[f.Tag : f.Tag+m.sizes[frame.Offset]]
			frame.Kind = impl.FrameFin
			if len(frame.Payload) > 0 {
				frame.Kind = impl.FrameData
			}
		}
		m.out(impl.Forward, frame)
	}
}

func (m *connModel) plan() impl.Plan {
	var paths []impl.PathView
	for _, s := range m.subs {
		open := int64(s.open())
		paths = append(paths, impl.PathView{Alive: mark(!s.dead), Backlog: open, Room: m.cfg.Window - open})
	}
	return planModel(impl.SchedInput{
		Policy: m.cfg.Policy, Turn: m.turn, Picks: m.picks, Paths: paths, Maps: m.maps, MaxMaps: m.cfg.MaxMaps,
		Mapped: m.mapped, Written: uint64(len(m.stream)), Edge: m.edge, Closed: mark(m.closed), FinMapped: mark(m.finMapped), Payload: m.cfg.Payload,
	})
}

func (m *connModel) sendOn() {
	for plan := m.plan(); plan.Kind != impl.PlanNone; plan = m.plan() {
		if plan.Kind != impl.PlanAgain {
			m.sizes[plan.Off] = plan.Len
		}
		carriers := int64(0)
		for _, p := range plan.Paths {
			m.goOut(p, m.subs[p].step(impl.SubEvent{Kind: impl.SubSend, Tag: int64(plan.Off)}).Frames)
			carriers += 1 << p
		}
		switch plan.Kind {
		case impl.PlanAgain:
			m.maps[plan.Place].Carriers += carriers
			m.maps[plan.Place].Queued = 0
		case impl.PlanData:
			m.maps = append(m.maps, impl.Mapping{Off: plan.Off, Len: plan.Len, Carriers: carriers})
			m.mapped += uint64(plan.Len)
		case impl.PlanFin:
			m.maps = append(m.maps, impl.Mapping{Off: plan.Off, Fin: 1, Carriers: carriers})
			m.finMapped = true
		}
		m.turn = plan.Turn
		m.picks = m.picks[plan.Used:]
	}
}

func (m *connModel) write(data string) impl.Answer {
	switch {
	case m.aborted:
		return impl.Answer{Code: impl.ErrAborted}
	case m.closed:
		return impl.Answer{Code: impl.ErrClosed}
	}
	written := int64(len(m.stream))
	fits := m.cfg.SendCap - (written - min(int64(m.acked), written))
	n := min(int64(len(data)), fits)
	m.stream = append(m.stream, data[:n]...)
	m.sendOn()
	return impl.Answer{N: n}
}

func (m *connModel) close() impl.Answer {
	switch {
	case m.aborted:
		return impl.Answer{Code: impl.ErrAborted}
	case m.closed:
		return impl.Answer{Code: impl.ErrClosed}
	}
	m.closed = true
	m.sendOn()
	return impl.Answer{}
}

func (m *connModel) resets() {
	for p := range m.cfg.Paths {
		m.out(impl.Forward, impl.Frame{Kind: impl.FrameReset, Path: p})
	}
}

func (m *connModel) abort() impl.Answer {
	if m.aborted {
		return impl.Answer{Code: impl.ErrAborted}
	}
	m.aborted = true
	m.resets()
	return impl.Answer{}
}

func (m *connModel) writerTick() {
	if m.aborted {
		m.resets()
		return
	}
	for p, s := range m.subs {
		out := s.step(impl.SubEvent{Kind: impl.SubTick})
		m.goOut(int64(p), out.Frames)
		if out.Died == 1 {
			alive := int64(0)
			for q, other := range m.subs {
				alive += mark(!other.dead) << q
			}
			m.maps = queueModel(m.maps, alive)
		}
	}
	m.sendOn()
}

func (m *connModel) toWriter(p int64, data []byte) {
	f, code := impl.DecodeFrame(data)
	if m.aborted || code != impl.OK || f.Path != p || f.Kind != impl.FrameAck || f.Offset > m.mapped && !(m.finMapped && f.Offset == m.mapped+1) {
		m.drops++
		return
	}
	m.acked = max(m.acked, f.Offset)
	m.edge = max(m.edge, f.Offset+uint64(f.Window))
	m.maps = ackModel(m.maps, m.acked)
	m.goOut(p, m.subs[p].step(impl.SubEvent{Kind: impl.SubAck, Seq: f.Seq}).Frames)
	m.sendOn()
}

func (m *connModel) acknowledge(p int64) {
	next := m.buffer.next()
	f := impl.Frame{Kind: impl.FrameAck, Path: p, Seq: m.waits[p], Offset: next, Window: int64(m.buffer.read) + m.cfg.RecvCap - int64(next)}
	if m.buffer.hasFin && next == m.buffer.fin {
		f.Offset = next + 1
	}
	m.out(impl.Back, f)
}

func (m *connModel) readerTick() {
	if m.stopped {
		return
	}
	for p := range m.cfg.Paths {
		m.acknowledge(p)
	}
}

func (m *connModel) toReader(p int64, data []byte) {
	f, code := impl.DecodeFrame(data)
	if m.stopped || code != impl.OK || f.Path != p || f.Kind == impl.FrameAck {
		m.dropped++
		return
	}
	if f.Kind == impl.FrameReset {
		m.stopped = !m.told
		return
	}
	if f.Kind != impl.FrameProbe && f.Seq == m.waits[p] {
		e := impl.ReorderEvent{Kind: impl.ReorderPut, Off: f.Offset, Data: f.Payload}
		if f.Kind == impl.FrameFin {
			e = impl.ReorderEvent{Kind: impl.ReorderFin, Off: f.Offset}
		}
		if m.buffer.step(e).Code != impl.OK {
			m.dropped++
			return
		}
		m.waits[p]++
	}
	m.acknowledge(p)
}

func (m *connModel) read(n int64) impl.Answer {
	if m.stopped {
		return impl.Answer{Code: impl.ErrAborted}
	}
	out := m.buffer.take(n)
	m.told = m.told || out.Code == impl.EOF
	return impl.Answer{Code: out.Code, N: out.N, Data: string(out.Data)}
}

// disturb lets a thing happen to the network; what it delivers comes to its end.
func (m *connModel) disturb(kind int64, c impl.Command) impl.Answer {
	out := m.net.step(impl.NetEvent{Kind: kind, Path: c.Path, Dir: c.Dir, Index: c.Index})
	if kind == impl.NetDeliver && out.Code == impl.OK {
		m.comes(c.Path, c.Dir, out.Data)
	}
	return impl.Answer{Code: out.Code}
}

func (m *connModel) comes(p, dir int64, data []byte) {
	if dir == impl.Forward {
		m.toReader(p, data)
	} else {
		m.toWriter(p, data)
	}
}

// inFlight is the number of datagrams in a bag.
func (m *connModel) inFlight(p, dir int64) int {
	return len(m.net.bags[[2]int64{p, dir}])
}

func (m *connModel) fair(p int64) impl.Answer {
	m.writerTick()
	m.readerTick()
	for dir := range int64(2) {
		for n := m.inFlight(p, dir); n > 0; n-- {
			m.disturb(impl.NetDeliver, impl.Command{Path: p, Dir: dir})
		}
	}
	return m.read(4096)
}

func (m *connModel) stat() impl.Answer {
	return impl.Answer{Data: fmt.Sprint(len(m.stream), " ", m.acked, " ", m.edge, " ", m.mapped, " ", len(m.maps), " ", m.drops, " ", m.buffer.read, " ", m.buffer.next(), " ", len(m.buffer.bytes), " ", m.dropped)}
}

// view is all that Inspect must tell now; the model goes on with the lists in it.
func (m *connModel) view() impl.View {
	v := impl.View{Bags: m.net.flight(), Picks: m.picks}
	v.Writer = impl.WriterView{Written: uint64(len(m.stream)), Acked: m.acked, Edge: m.edge, Mapped: m.mapped,
		Closed: mark(m.closed), FinMapped: mark(m.finMapped), Aborted: mark(m.aborted), Drops: m.drops, Turn: m.turn, Maps: m.maps}
	for _, s := range m.subs {
		v.Writer.Subs = append(v.Writer.Subs, s.view())
	}
	v.Reader = impl.ReaderView{Buffer: m.buffer.view(), Waits: m.waits, Aborted: mark(m.stopped), Told: mark(m.told), Drops: m.dropped}
	return v
}

func (m *connModel) step(line string) impl.Answer {
	c, code := lineModel(line)
	if code != impl.OK {
		return impl.Answer{Code: code}
	}
	if c.Path >= m.cfg.Paths {
		return impl.Answer{Code: impl.ErrPath}
	}
	m.sent = 0
	a := m.do(c)
	a.Sent = m.sent
	return a
}

func (m *connModel) do(c impl.Command) impl.Answer {
	kinds := map[int64]int64{impl.CmdDeliver: impl.NetDeliver, impl.CmdDrop: impl.NetDrop, impl.CmdDup: impl.NetDup, impl.CmdCut: impl.NetCut, impl.CmdUp: impl.NetUp}
	switch c.Op {
	case impl.CmdWrite:
		return m.write(c.Data)
	case impl.CmdFill:
		return m.write(strings.Repeat(c.Data, int(c.N)))
	case impl.CmdRead:
		return m.read(c.N)
	case impl.CmdClose:
		return m.close()
	case impl.CmdAbort:
		return m.abort()
	case impl.CmdTick:
		m.writerTick()
		m.readerTick()
	case impl.CmdWriterTick:
		m.writerTick()
	case impl.CmdReaderTick:
		m.readerTick()
	case impl.CmdPick:
		m.picks = append(m.picks, c.N)
	case impl.CmdInject:
		m.comes(c.Path, c.Dir, []byte(c.Data))
	case impl.CmdFair:
		return m.fair(c.Path)
	case impl.CmdStat:
		return m.stat()
	default:
		return m.disturb(kinds[c.Op], c)
	}
	return impl.Answer{}
}

// configLine writes a config down.
func configLine(c impl.Config) string {
	return fmt.Sprint("config ", c.Paths, " ", c.Policy, " ", c.Window, " ", c.Payload, " ", c.SendCap, " ", c.RecvCap, " ", c.MaxMaps, " ", c.Rto, " ", c.MaxRto, " ", c.DeadAfter, " ", c.ProbeEvery, " ", c.Isn)
}

// upTo is a number from 1 on: most often a small one, once in a while the greatest.
func upTo(r *rand.Rand, small, top int64) int64 {
	switch r.Intn(12) {
	case 0:
		return top
	case 1:
		return 1
	}
	return 1 + r.Int63n(small)
}

// someConfig is a valid config by chance, over all policies and numbers of paths; most are so small that everything in them runs full.
func someConfig(r *rand.Rand) impl.Config {
	c := impl.Config{
		Paths: upTo(r, 4, 8), Policy: 1 + r.Int63n(4), Window: upTo(r, 4, 16), Payload: upTo(r, 6, 32),
		SendCap: upTo(r, 40, 4096), RecvCap: upTo(r, 30, 4096), MaxMaps: upTo(r, 8, 256),
		Rto: 1 + r.Int63n(3), DeadAfter: 1 + r.Int63n(4), ProbeEvery: 1 + r.Int63n(5), Isn: someIsn(r),
	}
	c.MaxRto = c.Rto + r.Int63n(6)
	return c
}

// scriptMaker makes a script line by line; the model tells it what is in flight, and what the answers must be.
type scriptMaker struct {
	r       *rand.Rand
	model   *connModel
	lines   []string
	answers []impl.Answer
	letter  int
	ends    bool
}

func newScriptMaker(r *rand.Rand, cfg impl.Config) *scriptMaker {
	return &scriptMaker{r: r, model: newConnModel(cfg)}
}

func (s *scriptMaker) add(line string) impl.Answer {
	a := s.model.step(line)
	s.lines = append(s.lines, line)
	s.answers = append(s.answers, a)
	return a
}

func (s *scriptMaker) script() string {
	return configLine(s.model.cfg) + "\n" + strings.Join(s.lines, "\n")
}

// nextLetter goes round through the letters, so that no two neighbours in the stream are the same.
func (s *scriptMaker) nextLetter() string {
	s.letter++
	return string(rune('a' + s.letter%26))
}

func (s *scriptMaker) writeLine() string {
	if s.r.Intn(4) == 0 {
		return fmt.Sprint("fill ", s.r.Intn(30), " ", s.nextLetter())
	}
	line := "write "
	for range 1 + s.r.Intn(30) {
		line += s.nextLetter()
	}
	return line
}

// netLine moves or disturbs what is in flight, most often at a place that is there.
func (s *scriptMaker) netLine(word string) string {
	p, dir := s.r.Int63n(s.model.cfg.Paths), s.r.Int63n(2)
	place := s.r.Intn(s.model.inFlight(p, dir) + 1)
	if s.r.Intn(2) == 0 {
		place = 0
	}
	return fmt.Sprint(word, " ", p, " ", "fb"[dir:dir+1], " ", place)
}

func (s *scriptMaker) pathLine(word string) string {
	return fmt.Sprint(word, " ", s.r.Int63n(s.model.cfg.Paths))
}

// chance is a line by chance. The stream ends only when the maker was told so.
func (s *scriptMaker) chance() string {
	switch n := s.r.Intn(100); {
	case n < 15:
		return s.writeLine()
	case n < 22:
		return fmt.Sprint("read ", s.r.Intn(20))
	case n < 60:
		return s.netLine("deliver")
	case n < 64:
		return s.netLine("drop")
	case n < 69:
		return s.netLine("dup")
	case n < 71:
		return s.pathLine("cut")
	case n < 75:
		return s.pathLine("up")
	case n < 80:
		return "wtick"
	case n < 83:
		return "rtick"
	case n < 87:
		return "tick"
	case n < 91:
		return fmt.Sprint("pick ", s.r.Intn(9))
	case n < 94:
		return s.pathLine("fair")
	case n == 94 && s.ends:
		return "close"
	case n == 95 && s.ends && s.r.Intn(3) == 0:
		return "abort"
	}
	return "stat"
}
