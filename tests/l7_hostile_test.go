package tests

import (
	"fmt"
	"math"
	"math/rand"
	"strings"
	"testing"

	"loop.example/s03010/impl"
)

const standingConfig = "config 2 1 4 4 20 20 8 1 2 2 3 4294967295"

// standings are lines that leave both ends and the paths in all ways that matter to what comes to them.
var standings = map[string][]string{
	"fresh":               nil,
	"in flight":           {"write abcdefghij", "deliver 0 f 0", "deliver 1 f 0", "deliver 0 b 0", "read 2", "tick"},
	"a hole":              {"write abcdefghij", "drop 0 f 0", "deliver 1 f 0"},
	"cut":                 {"write abcdefgh", "cut 0", "tick"},
	"all cut":             {"cut 0", "cut 1", "write abcdefgh"},
	"dead":                {"write abcdefgh", "cut 0", "deliver 1 f 0", "deliver 1 b 0", "wtick", "wtick", "wtick", "wtick"},
	"all dead":            {"write abcdefgh", "cut 0", "cut 1", "wtick", "wtick", "wtick", "wtick", "up 0"},
	"closed":              {"write abcd", "close", "deliver 0 f 0", "deliver 0 b 0"},
	"the end told":        {"write abcd", "close", "deliver 0 f 0", "deliver 1 f 0", "read 4", "read 1"},
	"the writer aborted":  {"write abcd", "abort"},
	"both aborted":        {"write abcd", "abort", "deliver 1 f 0"},
	"the buffer is full":  {"fill 20 a", "deliver 0 f 0", "deliver 1 f 0", "deliver 0 f 0", "deliver 1 f 0", "deliver 0 f 0"},
	"nothing may be sent": {"fill 20 a", "fill 9 b", "close", "rtick"},
}

// laterLines let all that an end may have learned show itself.
var laterLines = []string{"write klmnop", "tick", "deliver 0 f 0", "deliver 1 f 0", "deliver 0 b 0", "deliver 1 b 0", "read 3", "close", "fair 0", "up 0", "fair 1", "tick", "fair 0", "fair 1", "read 9", "abort", "tick", "fair 0", "read 1"}

func scriptOf(config string, parts ...[]string) string {
	script := config
	for _, lines := range parts {
		for _, line := range lines {
			script += "\n" + line
		}
	}
	return script
}

// inspect tells the answers and the view of a script that is taken.
func inspect(t *testing.T, script string) ([]impl.Answer, impl.View) {
	t.Helper()
	out := impl.RunScript(script)
	v, code := impl.Inspect(script)
	if out.Code != impl.OK || code != impl.OK {
		t.Fatalf("codes %d and %d of\n%s", out.Code, code, script)
	}
	return out.Answers, v
}

// wantOnlyDrops asks that inject lines to the end of a direction change its Drops alone, each by 1, and no answer of a later line.
func wantOnlyDrops(t *testing.T, what string, ahead, injects []string, dir int64) {
	t.Helper()
	_, before := inspect(t, scriptOf(standingConfig, ahead))
	later, last := inspect(t, scriptOf(standingConfig, ahead, laterLines))
	answers, after := inspect(t, scriptOf(standingConfig, ahead, injects))
	more, behind := inspect(t, scriptOf(standingConfig, ahead, injects, laterLines))
	for i, a := range answers[len(ahead):] {
		if a != (impl.Answer{}) {
			t.Errorf("%s: %q: %+v", what, injects[i], a)
		}
	}
	for _, v := range []*impl.View{&before, &last} {
		if dir == impl.Forward {
			v.Reader.Drops += int64(len(injects))
		} else {
			v.Writer.Drops += int64(len(injects))
		}
	}
	if !sameValue(after, before) {
		t.Errorf("%s: %q\n%+v, want\n%+v", what, injects, after, before)
	}
	if !sameValue(more[len(ahead)+len(injects):], later[len(ahead):]) || !sameValue(behind, last) {
		t.Errorf("%s: the lines behind %q have changed", what, injects)
	}
}

// wantAllDropped asks it of many bytes at once, as far as one script has room.
func wantAllDropped(t *testing.T, what string, ahead []string, p, dir int64, list [][]byte) {
	t.Helper()
	const room = 200
	for len(list) > 0 {
		var injects []string
		for _, b := range list[:min(room, len(list))] {
			injects = append(injects, injectLine(p, dir, b))
		}
		wantOnlyDrops(t, what, ahead, injects, dir)
		list = list[len(injects):]
	}
}

// Promise 15, wherever the ends stand; and frames of another path or kind are dropped in the same way.
func TestInjectedNoise(t *testing.T) {
	refusals := map[int64]int{}
	for _, b := range noises() {
		_, code := impl.DecodeFrame(b)
		refusals[code]++
	}
	if refusals[impl.OK] > 0 || refusals[impl.ErrSize] == 0 || refusals[impl.ErrSum] == 0 || refusals[impl.ErrForm] == 0 {
		t.Fatalf("the noise is refused so often by each code: %v", refusals)
	}
	for what, ahead := range standings {
		for p := range int64(2) {
			for dir := range int64(2) {
				wantAllDropped(t, what+", noise", ahead, p, dir, noises())
				wantAllDropped(t, what+", strangers", ahead, p, dir, strangers(p, dir))
			}
		}
	}
}

// Promise 15 once more, each bytes alone.
func TestInjectedNoiseAlone(t *testing.T) {
	list := noises()
	for i, b := range list[:len(list)-len(turnedBits())] {
		for what, ahead := range standings {
			dir := int64(i % 2)
			wantOnlyDrops(t, what, ahead, []string{injectLine(int64(i/2%2), dir, b)}, dir)
		}
	}
}

// wantBounds asks for promise 16 of what is known behind a line.
func wantBounds(t *testing.T, script string, cfg impl.Config, v impl.View) {
	t.Helper()
	w, b := v.Writer, v.Reader.Buffer
	top := b.Read + uint64(cfg.RecvCap)
	held := uint64(0)
	at := b.Read
	for _, s := range b.Held {
		if s.Lo < at || s.Hi <= s.Lo || s.Hi > top {
			t.Fatalf("held %v, read %d, behind\n%s", b.Held, b.Read, script)
		}
		held += s.Hi - s.Lo
		at = s.Hi + 1
	}
	if w.Written-min(w.Acked, w.Written) > uint64(cfg.SendCap) || int64(len(w.Maps)) > cfg.MaxMaps || held > uint64(cfg.RecvCap) || w.Mapped > w.Edge || w.Mapped > w.Written {
		t.Fatalf("bounds of %+v and %+v behind\n%s", w, b, script)
	}
	if int64(len(w.Subs)) != cfg.Paths || int64(len(v.Reader.Waits)) != cfg.Paths || int64(len(v.Bags)) != 2*cfg.Paths {
		t.Fatalf("%d paths are told as %+v behind\n%s", cfg.Paths, v, script)
	}
	for _, s := range w.Subs {
		if int64(len(s.Tags)) > cfg.Window || s.Next-s.Base != uint32(len(s.Tags)) {
			t.Fatalf("a sender %+v behind\n%s", s, script)
		}
	}
	for _, bag := range v.Bags {
		if len(bag.Datagrams) > impl.NetCap {
			t.Fatalf("%d datagrams in a bag behind\n%s", len(bag.Datagrams), script)
		}
	}
}

// wantSentBound asks for the last bound of promise 16.
func wantSentBound(t *testing.T, cfg impl.Config, line string, a impl.Answer) {
	t.Helper()
	if !strings.HasPrefix(line, "fair") && a.Sent > cfg.Paths*cfg.Window+2*cfg.Paths {
		t.Fatalf("%q sends %d datagrams", line, a.Sent)
	}
}

// wantEveryLine holds a made script against a fresh model behind each of its lines, and lets look look at it.
func wantEveryLine(t *testing.T, s *scriptMaker, look func(script string, v impl.View)) {
	t.Helper()
	cfg := s.model.cfg
	m := newConnModel(cfg)
	answers := impl.RunScript(s.script()).Answers
	script := configLine(cfg)
	for i, line := range s.lines {
		want := m.step(line)
		script += "\n" + line
		if answers[i] != want {
			t.Fatalf("line %d, %q: %+v, want %+v, in\n%s", i, line, answers[i], want, script)
		}
		wantSentBound(t, cfg, line, want)
		v := wantView(t, script, m)
		wantBounds(t, script, cfg, v)
		look(script, v)
	}
}

// Promise 16 among forged frames of all kinds, behind every line.
func TestHostileByChance(t *testing.T) {
	r := rand.New(rand.NewSource(151))
	for range 400 {
		s := newScriptMaker(r, someConfig(r))
		s.ends = r.Intn(2) == 0
		often := 1 + r.Intn(3)
		for range 20 + r.Intn(50) {
			if r.Intn(4) < often {
				s.add(s.hostile())
			} else {
				s.add(s.chance())
			}
		}
		wantEveryLine(t, s, func(string, impl.View) {})
	}
}

// All policies over all numbers of paths, with longer scripts that are looked at behind the last line.
func TestHostileLong(t *testing.T) {
	r := rand.New(rand.NewSource(152))
	for policy := int64(1); policy <= 4; policy++ {
		for paths := int64(1); paths <= 8; paths++ {
			for range 10 {
				cfg := someConfig(r)
				cfg.Policy, cfg.Paths = policy, paths
				s := newScriptMaker(r, cfg)
				s.ends = r.Intn(3) == 0
				for range 200 {
					if r.Intn(2) == 0 {
						s.add(s.hostile())
					} else {
						s.add(s.chance())
					}
				}
				wantHostile(t, s)
			}
		}
	}
}

// wantHostile holds a made script against its model; that it is honest is not asked.
func wantHostile(t *testing.T, s *scriptMaker) {
	t.Helper()
	script := s.script()
	out := impl.RunScript(script)
	if out.Code != impl.OK || len(out.Answers) != len(s.answers) {
		t.Fatalf("code %d, %d answers of\n%s", out.Code, len(out.Answers), script)
	}
	for i, want := range s.answers {
		if out.Answers[i] != want {
			t.Fatalf("line %d, %q: %+v, want %+v, in\n%s", i, s.lines[i], out.Answers[i], want, script)
		}
		wantSentBound(t, s.model.cfg, s.lines[i], want)
	}
	wantBounds(t, script, s.model.cfg, wantView(t, script, s.model))
}

// A window of the greatest number does not let the writer or the buffer grow beyond their own bounds.
func TestHostileGreatest(t *testing.T) {
	r := rand.New(rand.NewSource(153))
	s := newScriptMaker(r, impl.Config{Paths: 8, Policy: 3, Window: 16, Payload: 32, SendCap: 4096, RecvCap: 4096, MaxMaps: 256, Rto: 1, MaxRto: 1, DeadAfter: 8, ProbeEvery: 50, Isn: math.MaxUint32})
	for i := range 60 {
		s.add("fill 999999 q")
		for p := range int64(8) {
			v := s.model.subs[p].view()
			s.add(forgeAck(p, v.Next, s.model.mapped, 65535))
		}
		s.add(fmt.Sprint("fair ", i%8))
		s.add("tick")
	}
	wantHostile(t, s)
	if s.model.edge < 5*4096 {
		t.Errorf("the edge is %d: nothing was forged beyond the buffer", s.model.edge)
	}
}

func TestHostileSentMost(t *testing.T) {
	wantRows(t, "all windows are full and run out at once", "config 8 3 16 1 4096 4096 256 1 1 8 50 0", []row{
		{"fill 16 a", 0, 16, "", 128},
		{"tick", 0, 0, "", 128 + 8},
		{"abort", 0, 0, "", 8},
		{"tick", 0, 0, "", 8 + 8},
	})
	wantRows(t, "a forged number wakes a path with a full window", "config 2 1 16 1 40 40 256 1 1 1 50 0", []row{
		{"fill 40 a", 0, 40, "", 32},
		{"wtick", 0, 0, "", 0},
		// Nothing new has room; what the other path carried has none either.
		{forgeAck(0, 0, 0, 0), 0, 0, "", 16},
		// All of the path's own is let go: what the other carried comes to it.
		{forgeAck(0, 16, 0, 0), 0, 0, "", 16},
	})
}

func TestForgedData(t *testing.T) {
	wantRows(t, "around the buffer's end and the number waited for", "config 2 1 4 4 20 10 8 5 5 2 2 4294967295", []row{
		{forgeData(0, 4294967294, 0, "zzzz"), 0, 0, "", 1},
		{forgeData(0, 0, 0, "zzzz"), 0, 0, "", 1},
		{forgeData(0, 2147483647, 0, "zzzz"), 0, 0, "", 1},
		{forgeData(0, 1, topOffset-4, "zzzz"), 0, 0, "", 1},
		{"stat", 0, 0, "0 0 10 0 0 0 0 0 0 0", 0},
		{forgeData(0, 4294967295, 6, "WXYZ"), 0, 0, "", 1},
		{"stat", 0, 0, "0 0 10 0 0 0 0 0 4 0", 0},
		{forgeData(0, 0, 7, "zzzz"), 0, 0, "", 0},
		{forgeData(0, 0, topOffset-4, "zzzz"), 0, 0, "", 0},
		{forgeData(0, 0, 10, "z"), 0, 0, "", 0},
		{"stat", 0, 0, "0 0 10 0 0 0 0 0 4 3", 0},
		{forgeData(0, 4294967295, 0, "zzzz"), 0, 0, "", 1},
		{forgeData(0, 0, 3, "defzz"), 0, 0, "", 1},
		{"stat", 0, 0, "0 0 10 0 0 0 0 0 7 3", 0},
		{"cut 1", 0, 0, "", 0},
		{forgeData(1, 0, 0, "abc"), 0, 0, "", 1},
		{forgeData(1, 1, 0, "zzz"), 0, 0, "", 1},
		{"stat", 0, 0, "0 0 10 0 0 0 0 10 10 3", 0},
		{"read 8", 0, 8, "abcdefWX", 0},
		{forgeData(1, 2, 4, "zzzzzz"), 0, 0, "", 1},
		{"read 9", 0, 2, "YZ", 0},
		{forgeData(1, 3, 0, "zzzzzz"), 0, 0, "", 1},
		{"stat", 0, 0, "0 0 10 0 0 0 10 10 0 3", 0},
	})
	wantRows(t, "what was forged stands in the stream's way", "config 1 1 4 4 20 10 8 5 5 2 2 0", []row{
		{"write abcd", 0, 4, "", 1},
		{forgeData(0, 0, 0, "zz"), 0, 0, "", 1},
		{"deliver 0 f 0", 0, 0, "", 1},
		{"read 9", 0, 2, "zz", 0},
		{"deliver 0 b 0", 0, 0, "", 0},
		{"stat", 0, 0, "4 2 10 4 1 0 2 2 0 0", 0},
	})
}

func TestForgedEnds(t *testing.T) {
	wantRows(t, "ends that contradict what is held or each other", "config 1 1 4 4 20 10 8 5 5 2 2 0", []row{
		{forgeData(0, 0, 2, "cd"), 0, 0, "", 1},
		{forgeFin(0, 1, 3), 0, 0, "", 0},
		{forgeFin(0, 1, 11), 0, 0, "", 0},
		{forgeFin(0, 1, topOffset), 0, 0, "", 0},
		{forgeFin(0, 2, 6), 0, 0, "", 1},
		{"stat", 0, 0, "0 0 10 0 0 0 0 0 2 3", 0},
		{forgeFin(0, 1, 6), 0, 0, "", 1},
		{forgeFin(0, 2, 7), 0, 0, "", 0},
		{forgeFin(0, 2, 5), 0, 0, "", 0},
		{forgeFin(0, 2, 6), 0, 0, "", 1},
		{forgeData(0, 3, 5, "fz"), 0, 0, "", 0},
		{forgeData(0, 3, 6, "z"), 0, 0, "", 0},
		{forgeData(0, 3, 4, "ef"), 0, 0, "", 1},
		{"read 9", 0, 0, "", 0},
		{forgeData(0, 4, 0, "ab"), 0, 0, "", 1},
		{"read 0", 0, 0, "", 0},
		{"read 9", 0, 6, "abcdef", 0},
		{forgeFin(0, 5, 5), 0, 0, "", 0},
		{forgeReset(0), 0, 0, "", 0},
		{"read 0", impl.ErrAborted, 0, "", 0},
		{"stat", 0, 0, "0 0 10 0 0 0 6 6 0 8", 0},
	})
	wantRows(t, "an end at the buffer's end", "config 1 1 4 4 20 10 8 5 5 2 2 0", []row{
		{forgeFin(0, 0, 10), 0, 0, "", 1},
		{forgeFin(0, 1, 10), 0, 0, "", 1},
		{forgeData(0, 2, 9, "jz"), 0, 0, "", 0},
		{forgeData(0, 2, 9, "j"), 0, 0, "", 1},
		{"stat", 0, 0, "0 0 10 0 0 0 0 0 1 1", 0},
	})
	wantRows(t, "an end that no close asked for", "config 1 1 4 4 20 10 8 5 5 2 2 0", []row{
		{forgeFin(0, 0, 0), 0, 0, "", 1},
		{"read 5", impl.EOF, 0, "", 0},
		{"write abcd", 0, 4, "", 1},
		// The reader waits for another number by now: the frame is none that it puts anywhere.
		{"deliver 0 f 0", 0, 0, "", 1},
		// The end at 0 was acknowledged by 1, and by now so much is mapped.
		{"deliver 0 b 0", 0, 0, "", 0},
		{"stat", 0, 0, "4 1 11 4 1 0 0 0 0 0", 0},
	})
}

func TestForgedResets(t *testing.T) {
	wantRows(t, "a reset ahead of the end", "config 2 1 4 4 20 10 8 5 5 2 2 0", []row{
		{forgeData(0, 0, 0, "ab"), 0, 0, "", 1},
		{"cut 1", 0, 0, "", 0},
		{forgeReset(1), 0, 0, "", 0},
		{"read 1", impl.ErrAborted, 0, "", 0},
		{forgeProbe(0, 1), 0, 0, "", 0},
		{forgeData(0, 1, 2, "c"), 0, 0, "", 0},
		{forgeFin(0, 1, 2), 0, 0, "", 0},
		{forgeReset(0), 0, 0, "", 0},
		{"rtick", 0, 0, "", 0},
		{"stat", 0, 0, "0 0 10 0 0 0 0 2 2 4", 0},
		{"write abcd", 0, 4, "", 1},
		{"fair 0", impl.ErrAborted, 0, "", 0},
		{"stat", 0, 0, "4 2 10 4 1 0 0 2 2 5", 0},
	})
	wantRows(t, "a reset when the end is known and not told", "config 1 1 4 4 20 10 8 5 5 2 2 0", []row{
		{forgeFin(0, 0, 0), 0, 0, "", 1},
		{forgeReset(0), 0, 0, "", 0},
		{"read 1", impl.ErrAborted, 0, "", 0},
	})
	wantRows(t, "a reset behind the end", "config 1 1 4 4 20 10 8 5 5 2 2 0", []row{
		{forgeFin(0, 0, 0), 0, 0, "", 1},
		{"read 0", impl.EOF, 0, "", 0},
		{forgeReset(0), 0, 0, "", 0},
		{"read 1", impl.EOF, 0, "", 0},
		{forgeProbe(0, 0), 0, 0, "", 1},
		{forgeProbe(0, 4294967295), 0, 0, "", 1},
		{"rtick", 0, 0, "", 1},
		{"stat", 0, 0, "0 0 10 0 0 0 0 0 0 0", 0},
	})
}

// The writer hears acknowledgements that no reader sent.
func TestForgedOffsets(t *testing.T) {
	wantRows(t, "around Mapped", "config 1 1 4 4 20 6 8 5 5 2 2 9", []row{
		{forgeAck(0, 9, 1, 0), 0, 0, "", 0},
		{"stat", 0, 0, "0 0 6 0 0 1 0 0 0 0", 0},
		{"write abcdefgh", 0, 8, "", 2},
		{forgeAck(0, 9, 7, 100), 0, 0, "", 0},
		{forgeAck(0, 9, topOffset, 65535), 0, 0, "", 0},
		{forgeAck(0, 11, 7, 100), 0, 0, "", 0},
		{"stat", 0, 0, "8 0 6 6 2 4 0 0 0 0", 0},
		{forgeAck(0, 9, 6, 0), 0, 0, "", 0},
		{"stat", 0, 0, "8 6 6 6 0 4 0 0 0 0", 0},
		{"close", 0, 0, "", 0},
		// The end is closed, but not mapped.
		{forgeAck(0, 9, 7, 2), 0, 0, "", 0},
		{"stat", 0, 0, "8 6 6 6 0 5 0 0 0 0", 0},
		{forgeAck(0, 9, 6, 2), 0, 0, "", 2},
		{"stat", 0, 0, "8 6 8 8 2 5 0 0 0 0", 0},
		{forgeAck(0, 9, 10, 0), 0, 0, "", 0},
		{forgeAck(0, 9, 8, 0), 0, 0, "", 0},
		{"stat", 0, 0, "8 8 8 8 1 6 0 0 0 0", 0},
		{forgeAck(0, 9, 9, 0), 0, 0, "", 0},
		{forgeAck(0, 9, 3, 65535), 0, 0, "", 0},
		{"stat", 0, 0, "8 9 65538 8 0 6 0 0 0 0", 0},
		{"abort", 0, 0, "", 1},
		{forgeAck(0, 13, 9, 65535), 0, 0, "", 0},
		{"stat", 0, 0, "8 9 65538 8 0 7 0 0 0 0", 0},
	})
	wantRows(t, "within a mapping", "config 1 1 4 4 6 20 8 5 5 2 2 9", []row{
		{"write abcdefgh", 0, 6, "", 2},
		{"cut 0", 0, 0, "", 0},
		{forgeAck(0, 9, 3, 0), 0, 0, "", 0},
		{"stat", 0, 0, "6 3 20 6 2 0 0 0 0 0", 0},
		{"write ghijklmn", 0, 3, "", 1},
		{forgeAck(0, 9, 4, 0), 0, 0, "", 0},
		{"stat", 0, 0, "9 4 20 9 2 0 0 0 0 0", 0},
	})
}

func TestForgedNumbers(t *testing.T) {
	wantRows(t, "around Base and Next, which wrap", "config 1 1 4 2 20 20 8 5 5 2 2 4294967294", []row{
		{"write abcdefgh", 0, 8, "", 4},
		{"write ij", 0, 2, "", 0},
		{forgeAck(0, 4294967293, 0, 20), 0, 0, "", 0},
		{forgeAck(0, 3, 0, 20), 0, 0, "", 0},
		{forgeAck(0, 2147483646, 0, 20), 0, 0, "", 0},
		{forgeAck(0, 4294967294, 0, 20), 0, 0, "", 0},
		{"stat", 0, 0, "10 0 20 8 4 0 0 0 0 0", 0},
		{forgeAck(0, 0, 0, 0), 0, 0, "", 1},
		{"stat", 0, 0, "10 0 20 10 5 0 0 0 0 0", 0},
		{forgeAck(0, 3, 2, 65535), 0, 0, "", 0},
		{"stat", 0, 0, "10 2 65537 10 4 0 0 0 0 0", 0},
		// The number is stale, the offset counts.
		{forgeAck(0, 4, 10, 0), 0, 0, "", 0},
		{"stat", 0, 0, "10 10 65537 10 0 0 0 0 0 0", 0},
		{"fill 99 z", 0, 20, "", 4},
		{"stat", 0, 0, "30 10 65537 18 4 0 0 0 0 0", 0},
	})
	wantRows(t, "a dead path", "config 2 1 2 2 20 20 8 1 1 1 50 0", []row{
		{"write abcdefgh", 0, 8, "", 4},
		{"wtick", 0, 0, "", 0},
		{forgeAck(0, 3, 0, 20), 0, 0, "", 0},
		{forgeAck(0, 4294967295, 0, 20), 0, 0, "", 0},
		{forgeAck(1, 3, 9, 20), 0, 0, "", 0},
		{"wtick", 0, 0, "", 0},
		{forgeAck(0, 2, 0, 0), 0, 0, "", 2},
		// The numbers of path 1 begin with 1: it is Base, and both frames go out again.
		{forgeAck(1, 1, 0, 0), 0, 0, "", 2},
		{"stat", 0, 0, "8 0 20 8 4 1 0 0 0 0", 0},
	})
}

// A piece that the buffer refuses keeps its number: it is taken when there is room.
func TestForgedEdge(t *testing.T) {
	rows := []row{
		{"write abcdefgh", 0, 8, "", 1},
		{forgeAck(0, 0, 0, 65535), 0, 0, "", 1},
		{"deliver 0 f 1", 0, 0, "", 1},
		{"deliver 0 f 0", 0, 0, "", 1},
		{"stat", 0, 0, "8 0 65535 8 2 0 0 4 4 0", 0},
		{forgeData(0, 1, 4, "efgh"), 0, 0, "", 0},
		{forgeData(0, 1, 4, "efgh"), 0, 0, "", 0},
		{"stat", 0, 0, "8 0 65535 8 2 0 0 4 4 2", 0},
		{"read 9", 0, 4, "abcd", 0},
		{forgeData(0, 2, 4, "zzzz"), 0, 0, "", 1},
		{forgeData(0, 1, 4, "efgh"), 0, 0, "", 1},
		{"read 9", 0, 4, "efgh", 0},
		{"stat", 0, 0, "8 0 65535 8 2 0 8 8 0 2", 0},
	}
	wantRows(t, "an edge beyond the buffer", "config 1 1 4 4 20 4 8 5 5 2 2 0", rows)
}

// Injected bytes come in on a cut path too, and never lie in a bag; what they call forth is lost there.
func TestInjectOnCutPath(t *testing.T) {
	wantRows(t, "a cut path", "config 2 1 4 4 20 20 8 5 5 2 2 0", []row{
		{"write abcdefgh", 0, 8, "", 2},
		{"cut 0", 0, 0, "", 0},
		{forgeData(0, 0, 0, "abcd"), 0, 0, "", 1},
		{"deliver 0 b 0", impl.ErrIndex, 0, "", 0},
		{"deliver 0 f 0", impl.ErrIndex, 0, "", 0},
		{"read 9", 0, 4, "abcd", 0},
		{forgeAck(0, 1, 4, 20), 0, 0, "", 0},
		{"stat", 0, 0, "8 4 24 8 1 0 4 4 0 0", 0},
		{"inject 0 f -", 0, 0, "", 0},
		{"inject 0 b 00", 0, 0, "", 0},
		{"inject 2 f -", impl.ErrPath, 0, "", 0},
		{"inject 2 f " + strings.Repeat("00", 65), impl.ErrSyntax, 0, "", 0},
		{"inject 0 f " + strings.Repeat("00", 64), 0, 0, "", 0},
		{"stat", 0, 0, "8 4 24 8 1 1 4 4 0 2", 0},
	})
}
