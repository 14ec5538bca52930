package tests

import (
	"math/rand"
	"strings"
	"testing"

	"loop.example/s03010/impl"
)

// acceptedBytes is the stream as the answers of a script's lines told it.
func acceptedBytes(lines []string, answers []impl.Answer) string {
	var stream strings.Builder
	for i, line := range lines {
		c, code := lineModel(line)
		switch {
		case code != impl.OK || answers[i].Code != impl.OK:
		case c.Op == impl.CmdWrite:
			stream.WriteString(c.Data[:answers[i].N])
		case c.Op == impl.CmdFill:
			stream.WriteString(strings.Repeat(c.Data, int(answers[i].N)))
		}
	}
	return stream.String()
}

// numberIn tells whether seq is one of those from low to high, on the circle.
func numberIn(seq, low, high uint32) bool {
	return seq-low <= high-low
}

// forwardFault is what is wrong with a frame to the reader; "" when nothing is.
func forwardFault(f impl.Frame, cfg impl.Config, stream string, w impl.WriterView) string {
	first := cfg.Isn + uint32(f.Path)
	next := w.Subs[f.Path].Next
	switch f.Kind {
	case impl.FrameData:
		end := f.Offset + uint64(len(f.Payload))
		switch {
		case end > w.Mapped || end > w.Edge || end > uint64(len(stream)):
			return "data beyond what may be sent"
		case stream[f.Offset:end] != string(f.Payload) || int64(len(f.Payload)) > cfg.Payload:
			return "data that is not the stream's"
		case !numberIn(f.Seq, first, next-1):
			return "data of no number that was sent"
		}
	case impl.FrameFin:
		if w.Closed == 0 || w.FinMapped == 0 || f.Offset != uint64(len(stream)) || !numberIn(f.Seq, first, next-1) {
			return "an end that is none"
		}
	case impl.FrameProbe:
		if !numberIn(f.Seq, first, next) {
			return "a probe of no number that was sent"
		}
	case impl.FrameReset:
		if w.Aborted == 0 {
			return "a reset without an abort"
		}
	default:
		return "a frame of another kind"
	}
	return ""
}

// backFault is what is wrong with a frame to the writer; "" when nothing is.
func backFault(f impl.Frame, cfg impl.Config, r impl.ReaderView) string {
	b := r.Buffer
	end := uint64(0)
	if b.HasFin == 1 && b.Next == b.Fin {
		end = 1
	}
	switch {
	case f.Kind != impl.FrameAck:
		return "a frame of another kind"
	case f.Offset > b.Next+end:
		return "an acknowledgement of more than the buffer has"
	case f.Offset+uint64(f.Window) > b.Read+uint64(cfg.RecvCap)+end:
		return "a window beyond the buffer's end"
	case !numberIn(f.Seq, cfg.Isn+uint32(f.Path), r.Waits[f.Path]):
		return "an acknowledgement of a number that is still waited for"
	}
	return ""
}

// wantFlight asks for promise 17, and tells which kinds of frames it has seen.
func wantFlight(t *testing.T, script string, cfg impl.Config, stream string, v impl.View, seen map[int64]int) {
	t.Helper()
	if uint64(len(stream)) != v.Writer.Written {
		t.Fatalf("%d bytes were accepted, %d are told behind\n%s", len(stream), v.Writer.Written, script)
	}
	for _, bag := range v.Bags {
		for _, data := range bag.Datagrams {
			f, code := impl.DecodeFrame(data)
			if code != impl.OK || f.Path != bag.Path {
				t.Fatalf("%x in flight on path %d: %+v, code %d, behind\n%s", data, bag.Path, f, code, script)
			}
			fault := forwardFault(f, cfg, stream, v.Writer)
			if bag.Dir == impl.Back {
				fault = backFault(f, cfg, v.Reader)
			}
			if fault != "" {
				t.Fatalf("%s: %+v of %+v and %+v behind\n%s", fault, f, v.Writer, v.Reader, script)
			}
			seen[f.Kind]++
		}
	}
}

// Promise 17 over all policies and numbers of paths, behind every line.
func TestFlight(t *testing.T) {
	r := rand.New(rand.NewSource(171))
	seen := map[int64]int{}
	for policy := int64(1); policy <= 4; policy++ {
		for paths := int64(1); paths <= 8; paths++ {
			for range 8 {
				cfg := someConfig(r)
				cfg.Policy, cfg.Paths = policy, paths
				s := newScriptMaker(r, cfg)
				for i := range 70 {
					s.ends = i > 40
					s.add(s.chance())
				}
				i := 0
				wantEveryLine(t, s, func(script string, v impl.View) {
					i++
					wantFlight(t, script, cfg, acceptedBytes(s.lines[:i], s.answers[:i]), v, seen)
				})
			}
		}
	}
	for kind := int64(impl.FrameData); kind <= impl.FrameProbe; kind++ {
		if seen[kind] < 50 {
			t.Errorf("only %d frames of kind %d were in flight", seen[kind], kind)
		}
	}
}

// Paths that are silent for long: probes, frames that are sent again, and what another path takes over.
func TestFlightSilence(t *testing.T) {
	r := rand.New(rand.NewSource(172))
	seen := map[int64]int{}
	for range 60 {
		s := newScriptMaker(r, someConfig(r))
		for range 3 {
			s.add(s.writeLine())
			s.add(s.pathLine("cut"))
			for range r.Intn(12) {
				s.add("wtick")
			}
			s.add(s.pathLine("up"))
			for range r.Intn(12) {
				s.add(s.chance())
			}
		}
		i := 0
		wantEveryLine(t, s, func(script string, v impl.View) {
			i++
			wantFlight(t, script, s.model.cfg, acceptedBytes(s.lines[:i], s.answers[:i]), v, seen)
		})
	}
}

// mayNotBeLeftOut tells whether a line has done something although its code is not OK.
func mayNotBeLeftOut(line string, a impl.Answer) bool {
	c, code := lineModel(line)
	asks := code == impl.OK && (c.Op == impl.CmdRead || c.Op == impl.CmdFair)
	return asks && (a.Code == impl.EOF || a.Code == impl.ErrAborted)
}

// wantWithoutRefused asks for promise 18, and tells by code how many lines were left out.
func wantWithoutRefused(t *testing.T, config string, lines []string, seen map[int64]int) {
	t.Helper()
	script := scriptOf(config, lines)
	answers, v := inspect(t, script)
	var kept []string
	var want []impl.Answer
	for i, line := range lines {
		a := answers[i]
		if a.Code == impl.OK || mayNotBeLeftOut(line, a) {
			kept = append(kept, line)
			want = append(want, a)
			continue
		}
		if a != (impl.Answer{Code: a.Code}) {
			t.Fatalf("a refused line %q: %+v in\n%s", line, a, script)
		}
		seen[a.Code]++
	}
	got, without := inspect(t, scriptOf(config, kept))
	if !sameValue(got, want) || !sameValue(without, v) {
		t.Fatalf("without its refused lines all is not the same in\n%s", script)
	}
}

// refusable is a line by chance that is refused quite often.
func (s *scriptMaker) refusable(wrong []string) string {
	switch s.r.Intn(8) {
	case 0, 1:
		return wrong[s.r.Intn(len(wrong))]
	case 2:
		return s.hostile()
	case 3:
		return s.netLine([]string{"deliver", "drop", "dup"}[s.r.Intn(3)])
	case 4:
		return s.writeLine()
	}
	return s.chance()
}

// Promise 18, with and without injected frames.
func TestWithoutRefusedLines(t *testing.T) {
	r := rand.New(rand.NewSource(181))
	seen := map[int64]int{}
	for range 600 {
		s := newScriptMaker(r, someConfig(r))
		s.ends = true
		wrong := wrongLines(s.model.cfg)
		for range 60 {
			line := s.refusable(wrong)
			if len(line) < 200 || r.Intn(3) == 0 {
				s.add(line)
			}
		}
		if r.Intn(2) == 0 {
			s.add("close")
			s.add("write x")
			s.add("close")
		}
		s.add("abort")
		s.add("close")
		s.add("fill 3 x")
		s.add("abort")
		wantWithoutRefused(t, configLine(s.model.cfg), s.lines, seen)
	}
	for _, code := range []int64{impl.ErrSyntax, impl.ErrLimit, impl.ErrPath, impl.ErrIndex, impl.ErrClosed, impl.ErrAborted} {
		if seen[code] < 20 {
			t.Errorf("only %d lines were refused with code %d", seen[code], code)
		}
	}
}

// A doubling that finds the bag full.
func TestWithoutRefusedDoublings(t *testing.T) {
	lines := []string{"fill 16 a", "rtick"}
	for range 5 {
		lines = append(lines, "wtick", "dup 0 f 0", "dup 0 f 63", "dup 0 b 0", "dup 0 b 0", "dup 0 f 64")
	}
	for range 64 {
		lines = append(lines, "rtick", "dup 0 b 63")
	}
	seen := map[int64]int{}
	const config = "config 1 1 16 1 20 20 256 1 1 8 2 0"
	wantWithoutRefused(t, config, lines, seen)
	wantWithoutRefused(t, config, append(lines, "fair 0", "fair 0", "stat"), seen)
	if seen[impl.ErrFull] < 5 || seen[impl.ErrIndex] < 1 {
		t.Errorf("refused by code: %v", seen)
	}
}

// Each refused line alone, wherever the ends stand.
func TestRefusedLineAlone(t *testing.T) {
	cfg, _ := impl.ParseConfig(standingConfig)
	for what, ahead := range standings {
		for _, line := range append(wrongLines(cfg), "deliver 1 f 9", "drop 1 b 9", "dup 0 f 9", "close", "write x", "fill 0 x", "abort") {
			answers, v := inspect(t, scriptOf(standingConfig, ahead, []string{line}))
			if answers[len(ahead)].Code == impl.OK {
				continue
			}
			_, before := inspect(t, scriptOf(standingConfig, ahead))
			if !sameValue(v, before) {
				t.Errorf("%s: %q changes\n%+v, to\n%+v", what, line, before, v)
			}
			more, last := inspect(t, scriptOf(standingConfig, ahead, []string{line}, laterLines))
			later, want := inspect(t, scriptOf(standingConfig, ahead, laterLines))
			if !sameValue(more[len(ahead)+1:], later[len(ahead):]) || !sameValue(last, want) {
				t.Errorf("%s: the lines behind %q have changed", what, line)
			}
		}
	}
}
