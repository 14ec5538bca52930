package tests

import (
	"fmt"
	"math/rand"
	"strings"
	"testing"

	"loop.example/s03010/impl"
)

// row is a line of a script and its answer.
type row struct {
	line string
	code int64
	n    int64
	data string
	sent int64
}

// wantRows runs a script; the rows were worked out by hand, and the model must say the same. Behind every row Inspect is held against the model.
func wantRows(t *testing.T, what, config string, rows []row) {
	t.Helper()
	script := config
	for _, r := range rows {
		script += "\n" + r.line
	}
	out := impl.RunScript(script)
	if out.Code != impl.OK || len(out.Answers) != len(rows) {
		t.Fatalf("%s: code %d, %d answers", what, out.Code, len(out.Answers))
	}
	cfg, _ := impl.ParseConfig(config)
	m := newConnModel(cfg)
	ahead := config
	wantView(t, ahead, m)
	for i, r := range rows {
		want := impl.Answer{Code: r.code, N: r.n, Data: r.data, Sent: r.sent}
		if out.Answers[i] != want {
			t.Errorf("%s: line %d, %q: %+v, want %+v", what, i, r.line, out.Answers[i], want)
		}
		if byModel := m.step(r.line); byModel != want {
			t.Errorf("%s: line %d, %q: the model says %+v, the row %+v", what, i, r.line, byModel, want)
		}
		ahead += "\n" + r.line
		wantView(t, ahead, m)
	}
}

// wantView holds what Inspect tells of a script against the model that took the same lines.
func wantView(t *testing.T, script string, m *connModel) impl.View {
	t.Helper()
	v, code := impl.Inspect(script)
	if want := m.view(); code != impl.OK || !sameValue(v, want) {
		t.Fatalf("code %d\n%+v, want\n%+v, of\n%s", code, v, want, script)
	}
	return v
}

// wantAnswers holds a made script against its model and asks for promises 12 and 13.
func wantAnswers(t *testing.T, s *scriptMaker) {
	t.Helper()
	script := s.script()
	out := impl.RunScript(script)
	if out.Code != impl.OK || len(out.Answers) != len(s.answers) {
		t.Fatalf("code %d, %d answers of\n%s", out.Code, len(out.Answers), script)
	}
	for i, want := range s.answers {
		if out.Answers[i] != want {
			t.Fatalf("line %d, %q: %+v, want %+v, in\n%s", i, s.lines[i], out.Answers[i], want, script)
		}
	}
	wantHonest(t, s.lines, out.Answers)
	wantView(t, script, s.model)
}

// streamLog is what the two applications know of a stream.
type streamLog struct {
	accepted string
	got      string
	closed   bool
	aborted  bool
	end      int64
}

func (l *streamLog) writes(t *testing.T, line, data string, a impl.Answer) {
	want := int64(impl.OK)
	if l.closed {
		want = impl.ErrClosed
	}
	if l.aborted {
		want = impl.ErrAborted
	}
	if a.Code != want || want != impl.OK && a.N != 0 || a.N < 0 || a.N > int64(len(data)) {
		t.Fatalf("%q: %+v, want code %d", line, a, want)
	}
	l.accepted += data[:a.N]
}

func (l *streamLog) reads(t *testing.T, line string, a impl.Answer) {
	if int64(len(a.Data)) != a.N || a.Code != impl.OK && a.N != 0 {
		t.Fatalf("%q: %+v", line, a)
	}
	l.got += a.Data
	if !strings.HasPrefix(l.accepted, l.got) {
		t.Fatalf("%q: %q was read of %q", line, l.got, l.accepted)
	}
	if l.end != impl.OK && a.Code != l.end {
		t.Fatalf("%q: %+v behind %d", line, a, l.end)
	}
	l.end = a.Code
	switch a.Code {
	case impl.OK:
	case impl.EOF:
		if !l.closed || l.got != l.accepted {
			t.Fatalf("%q: the end behind %q of %q", line, l.got, l.accepted)
		}
	case impl.ErrAborted:
		if !l.aborted {
			t.Fatalf("%q: aborted without an abort", line)
		}
	default:
		t.Fatalf("%q: %+v", line, a)
	}
}

// wantHonest asks for promises 12 and 13, of the answers alone.
func wantHonest(t *testing.T, lines []string, answers []impl.Answer) {
	t.Helper()
	var l streamLog
	for i, line := range lines {
		c, code := lineModel(line)
		a := answers[i]
		if code != impl.OK || a.Code == impl.ErrPath {
			continue
		}
		switch c.Op {
		case impl.CmdWrite:
			l.writes(t, line, c.Data, a)
		case impl.CmdFill:
			l.writes(t, line, strings.Repeat(c.Data, int(c.N)), a)
		case impl.CmdRead, impl.CmdFair:
			l.reads(t, line, a)
		case impl.CmdClose:
			l.closed = l.closed || a.Code == impl.OK
		case impl.CmdAbort:
			l.aborted = l.aborted || a.Code == impl.OK
		}
	}
}

func TestConnByChance(t *testing.T) {
	r := rand.New(rand.NewSource(72))
	for range 1500 {
		s := newScriptMaker(r, someConfig(r))
		s.ends = r.Intn(2) == 0
		for range 20 + r.Intn(120) {
			s.add(s.chance())
		}
		wantAnswers(t, s)
	}
}

// Every policy over every number of paths, each path on its own good or bad for a while.
func TestConnAllPoliciesAndPaths(t *testing.T) {
	r := rand.New(rand.NewSource(73))
	for policy := int64(1); policy <= 4; policy++ {
		for paths := int64(1); paths <= 8; paths++ {
			for range 10 {
				cfg := someConfig(r)
				cfg.Policy, cfg.Paths = policy, paths
				s := newScriptMaker(r, cfg)
				for range 200 {
					s.add(s.chance())
				}
				s.ends = true
				for range 100 {
					s.add(s.chance())
				}
				wantAnswers(t, s)
			}
		}
	}
}

// Long silences: paths die, the bags run full, and all comes back.
func TestConnSilence(t *testing.T) {
	r := rand.New(rand.NewSource(74))
	for range 150 {
		s := newScriptMaker(r, someConfig(r))
		for range 4 {
			s.add(s.writeLine())
			s.add(s.pathLine("cut"))
			for range r.Intn(40) {
				s.add([]string{"tick", "wtick", "rtick"}[r.Intn(3)])
			}
			s.add(s.pathLine("up"))
			for range r.Intn(40) {
				s.add(s.chance())
			}
		}
		wantAnswers(t, s)
	}
}

// wrongLines are refused, wherever they stand; the paths are beyond the config's.
func wrongLines(cfg impl.Config) []string {
	lines := []string{"write", "write a b", "fill 1 xy", "fill 1000000 x", "read 01", "close 1", " tick", "stat ", "nothing", "deliver 0 x 0", "inject 0 f 0", "write \x7f", strings.Repeat("y", 1001), "up 1000000",
		"deliver 0 f 64", "drop 0 b 64", "dup 0 f 999999"}
	for _, p := range []int64{cfg.Paths, cfg.Paths + 1, 999999} {
		for _, form := range []string{"deliver %d f 0", "drop %d b 0", "dup %d f 0", "cut %d", "up %d", "fair %d", "inject %d b -"} {
			lines = append(lines, fmt.Sprintf(form, p))
		}
	}
	return lines
}

// A refused line among others changes none of their answers.
func TestConnRefusedLines(t *testing.T) {
	r := rand.New(rand.NewSource(75))
	for range 60 {
		s := newScriptMaker(r, someConfig(r))
		s.ends = true
		for range 60 {
			s.add(s.chance())
		}
		plain := impl.RunScript(s.script()).Answers
		wrong := wrongLines(s.model.cfg)
		mixed := configLine(s.model.cfg)
		for _, line := range s.lines {
			mixed += "\n" + wrong[r.Intn(len(wrong))] + "\n" + line
		}
		out := impl.RunScript(mixed)
		if out.Code != impl.OK || len(out.Answers) != 2*len(plain) {
			t.Fatalf("code %d, %d answers", out.Code, len(out.Answers))
		}
		for i, a := range plain {
			if refused := out.Answers[2*i]; refused.Code == impl.OK || refused != (impl.Answer{Code: refused.Code}) {
				t.Fatalf("a wrong line is answered by %+v in\n%s", refused, mixed)
			}
			if out.Answers[2*i+1] != a {
				t.Fatalf("line %d, %q: %+v, without wrong lines %+v, in\n%s", i, s.lines[i], out.Answers[2*i+1], a, mixed)
			}
		}
	}
}

func TestConnWrongLineCodes(t *testing.T) {
	wantRows(t, "the order of the errors", "config 2 1 4 4 20 20 8 5 5 2 2 0", []row{
		{"deliver 2 x 0", impl.ErrSyntax, 0, "", 0},
		{"deliver 2 f 0", impl.ErrPath, 0, "", 0},
		{"deliver 1 f 0", impl.ErrIndex, 0, "", 0},
		{"drop 8 b 0", impl.ErrPath, 0, "", 0},
		{"drop 0 b 0", impl.ErrIndex, 0, "", 0},
		{"dup 999999 f 1", impl.ErrPath, 0, "", 0},
		{"dup 0 f 0", impl.ErrIndex, 0, "", 0},
		{"cut 2", impl.ErrPath, 0, "", 0},
		{"up 2", impl.ErrPath, 0, "", 0},
		{"fair 2", impl.ErrPath, 0, "", 0},
		{"inject 2 f -", impl.ErrPath, 0, "", 0},
		{"inject 2 f 0", impl.ErrSyntax, 0, "", 0},
		{"deliver 2 f 0" + strings.Repeat("0", 1000), impl.ErrLimit, 0, "", 0},
		{"stat", 0, 0, "0 0 20 0 0 0 0 0 0 0", 0},
	})
}

// fairConfig is a config by chance whose bound leaves room for a script.
func fairConfig(r *rand.Rand) impl.Config {
	cfg := someConfig(r)
	for cfg.DeadAfter*cfg.MaxRto > 24 {
		cfg.DeadAfter--
	}
	cfg.SendCap = min(cfg.SendCap, 100)
	return cfg
}

// fairLines makes as many fair rounds as the bound asks for, and tells the answer of the last.
func (s *scriptMaker) fairLines(p int64) impl.Answer {
	var last impl.Answer
	for range impl.FairBound(s.model.cfg, int64(len(s.model.stream))) {
		last = s.add(fmt.Sprint("fair ", p))
	}
	return last
}

// Promise 14, behind all that may happen to the paths before.
func TestFairRounds(t *testing.T) {
	r := rand.New(rand.NewSource(76))
	for range 150 {
		s := newScriptMaker(r, fairConfig(r))
		for range r.Intn(60) {
			s.add(s.chance())
		}
		p := r.Int63n(s.model.cfg.Paths)
		s.add(fmt.Sprint("up ", p))
		closed := r.Intn(2) == 0
		if closed {
			s.add("close")
		}
		if int64(len(s.lines))+impl.FairBound(s.model.cfg, int64(len(s.model.stream))) > 900 {
			continue
		}
		s.fairLines(p)
		s.add("fill 999999 z")
		wantAnswers(t, s)
		wantFair(t, s, closed)
	}
}

// wantFair looks at the answers of a script that ends with fair rounds and a fill.
func wantFair(t *testing.T, s *scriptMaker, closed bool) {
	t.Helper()
	answers := impl.RunScript(s.script()).Answers
	written, read := int64(0), int64(0)
	last := len(answers) - 1
	for i, a := range answers[:last] {
		switch strings.Fields(s.lines[i])[0] {
		case "write", "fill":
			written += a.N
		case "read", "fair":
			read += a.N
		}
	}
	if written != read {
		t.Fatalf("%d bytes of %d were read in\n%s", read, written, s.script())
	}
	if closed && (answers[last-1].Code != impl.EOF || answers[last].Code != impl.ErrClosed) {
		t.Fatalf("behind the close: %+v and %+v in\n%s", answers[last-1], answers[last], s.script())
	}
	if !closed && (answers[last-1].Code != impl.OK || answers[last] != impl.Answer{N: s.model.cfg.SendCap, Sent: answers[last].Sent}) {
		t.Fatalf("a write behind the fair rounds: %+v, then %+v in\n%s", answers[last-1], answers[last], s.script())
	}
}

// Small and wide configs: half of the paths are cut ahead of the write, all behind it, and only one comes back.
func TestFairEdges(t *testing.T) {
	for _, config := range []string{
		"config 1 1 1 1 1 1 1 1 1 1 1 4294967295",
		"config 1 2 1 32 40 1 1 1 1 1 50 0",
		"config 2 3 1 1 5 1 1 1 1 1 50 4294967295",
		"config 8 1 1 1 9 1 1 1 1 1 50 4294967290",
		"config 8 2 16 1 30 4096 1 1 1 8 50 4294967290",
		"config 8 3 2 3 30 2 256 2 3 2 1 0",
		"config 8 4 2 3 30 2 256 2 3 2 1 0",
		"config 3 1 16 1 60 60 256 1 3 1 1 4294967280",
	} {
		cfg, code := impl.ParseConfig(config)
		wantCode(t, config, code, impl.OK)
		for p := range cfg.Paths {
			for _, closed := range []bool{false, true} {
				s := newScriptMaker(rand.New(rand.NewSource(77)), cfg)
				for q := range cfg.Paths {
					if q%2 == 0 {
						s.add(fmt.Sprint("cut ", q))
					}
				}
				s.add("write " + string(letters(26)))
				for range 3 {
					s.add("tick")
				}
				for q := range cfg.Paths {
					s.add(fmt.Sprint("cut ", q))
				}
				s.add(fmt.Sprint("up ", p))
				if closed {
					s.add("close")
				}
				s.fairLines(p)
				s.add("fill 999999 z")
				wantAnswers(t, s)
				wantFair(t, s, closed)
			}
		}
	}
}

func TestConnShortWrites(t *testing.T) {
	wantRows(t, "a write that fits in part, and not at all", "config 1 1 4 4 6 100 8 5 5 2 2 0", []row{
		{"write abcd", 0, 4, "", 1},
		{"write efgh", 0, 2, "", 1},
		{"write x", 0, 0, "", 0},
		{"fill 3 y", 0, 0, "", 0},
		{"stat", 0, 0, "6 0 100 6 2 0 0 0 0 0", 0},
		{"deliver 0 f 0", 0, 0, "", 1},
		{"deliver 0 b 0", 0, 0, "", 0},
		{"write ghijk", 0, 4, "", 1},
		{"fill 999999 z", 0, 0, "", 0},
		{"fair 0", 0, 10, "abcdefghij", 3},
		{"fill 999999 z", 0, 6, "", 2},
	})
	wantRows(t, "one byte at a time", "config 1 1 4 4 1 4096 8 5 5 2 2 0", []row{
		{"write ab", 0, 1, "", 1},
		{"write b", 0, 0, "", 0},
		{"fair 0", 0, 1, "a", 2},
		{"write bc", 0, 1, "", 1},
	})
}

func TestConnSmallest(t *testing.T) {
	wantRows(t, "a buffer of one byte", "config 1 1 1 1 10 1 1 5 5 2 2 0", []row{
		{"write abc", 0, 3, "", 1},
		{"deliver 0 f 0", 0, 0, "", 1},
		{"deliver 0 b 0", 0, 0, "", 0},
		{"stat", 0, 0, "3 1 1 1 0 0 0 1 1 0", 0},
		{"read 5", 0, 1, "a", 0},
		{"rtick", 0, 0, "", 1},
		{"deliver 0 b 0", 0, 0, "", 1},
		{"stat", 0, 0, "3 1 2 2 1 0 1 1 0 0", 0},
	})
	wantRows(t, "one mapping at a time", "config 2 1 4 2 20 20 1 5 5 2 2 0", []row{
		{"write abcdef", 0, 6, "", 1},
		{"deliver 0 f 0", 0, 0, "", 1},
		{"deliver 0 b 0", 0, 0, "", 1},
		{"deliver 1 f 0", 0, 0, "", 1},
		{"deliver 1 b 0", 0, 0, "", 1},
		{"deliver 0 f 0", 0, 0, "", 1},
		{"read 9", 0, 6, "abcdef", 0},
	})
	wantRows(t, "a window of one frame", "config 2 3 1 2 20 20 8 5 5 2 2 0", []row{
		{"write abcdef", 0, 6, "", 2},
		{"deliver 0 f 0", 0, 0, "", 1},
		{"deliver 0 b 0", 0, 0, "", 1},
		{"deliver 1 f 0", 0, 0, "", 1},
		{"deliver 0 f 0", 0, 0, "", 1},
		{"deliver 1 b 0", 0, 0, "", 1},
		{"stat", 0, 0, "6 2 20 6 2 0 0 4 4 0", 0},
	})
}

func TestConnNumbersWrap(t *testing.T) {
	wantRows(t, "from 2^32 - 1 to 0", "config 2 1 4 2 20 20 8 3 3 2 2 4294967295", []row{
		{"write abcdefgh", 0, 8, "", 4},
		{"deliver 0 f 1", 0, 0, "", 1},
		{"read 9", 0, 0, "", 0},
		{"deliver 0 f 0", 0, 0, "", 1},
		{"deliver 1 f 0", 0, 0, "", 1},
		{"deliver 1 f 0", 0, 0, "", 1},
		{"read 9", 0, 4, "abcd", 0},
		{"deliver 0 b 1", 0, 0, "", 0},
		{"deliver 0 b 0", 0, 0, "", 0},
		{"stat", 0, 0, "8 2 20 8 3 0 4 4 2 0", 0},
		{"wtick", 0, 0, "", 0},
		{"wtick", 0, 0, "", 0},
		{"wtick", 0, 0, "", 3},
		{"deliver 0 f 0", 0, 0, "", 1},
		{"read 9", 0, 4, "efgh", 0},
	})
}

func TestConnClose(t *testing.T) {
	wantRows(t, "a close with nothing written", "config 2 2 2 4 20 20 8 5 5 2 2 9", []row{
		{"read 1", 0, 0, "", 0},
		{"close", 0, 0, "", 1},
		{"stat", 0, 0, "0 0 20 0 1 0 0 0 0 0", 0},
		{"read 1", 0, 0, "", 0},
		{"close", impl.ErrClosed, 0, "", 0},
		{"write a", impl.ErrClosed, 0, "", 0},
		{"fill 0 a", impl.ErrClosed, 0, "", 0},
		{"deliver 0 f 0", 0, 0, "", 1},
		{"deliver 0 b 0", 0, 0, "", 0},
		{"stat", 0, 0, "0 1 21 0 0 0 0 0 0 0", 0},
		{"read 0", impl.EOF, 0, "", 0},
		{"fair 1", impl.EOF, 0, "", 2},
		{"abort", 0, 0, "", 2},
		{"deliver 1 f 0", 0, 0, "", 0},
		{"read 3", impl.EOF, 0, "", 0},
	})
	wantRows(t, "a close with bytes still to send", "config 1 1 1 4 20 6 8 5 5 2 2 9", []row{
		{"write abcdefgh", 0, 8, "", 1},
		{"close", 0, 0, "", 0},
		{"fair 0", 0, 4, "abcd", 3},
		{"stat", 0, 0, "8 4 6 6 1 0 4 4 0 0", 0},
		{"fair 0", 0, 2, "ef", 3},
		{"fair 0", 0, 2, "gh", 3},
		{"fair 0", impl.EOF, 0, "", 2},
		{"read 0", impl.EOF, 0, "", 0},
		{"stat", 0, 0, "8 9 15 8 0 0 8 8 0 0", 0},
	})
	wantRows(t, "a read of nothing ahead of the end", "config 1 1 4 4 20 20 8 5 5 2 2 9", []row{
		{"write abcd", 0, 4, "", 1},
		{"close", 0, 0, "", 1},
		{"deliver 0 f 0", 0, 0, "", 1},
		{"deliver 0 f 0", 0, 0, "", 1},
		{"read 0", 0, 0, "", 0},
		{"read 4", 0, 4, "abcd", 0},
		{"abort", 0, 0, "", 1},
		{"deliver 0 f 0", 0, 0, "", 0},
		{"read 4", impl.ErrAborted, 0, "", 0},
	})
}

func TestConnAbort(t *testing.T) {
	wantRows(t, "an abort ahead of a close", "config 3 1 2 4 20 20 8 1 5 2 2 9", []row{
		{"write abcdefgh", 0, 8, "", 2},
		{"deliver 0 f 0", 0, 0, "", 1},
		{"abort", 0, 0, "", 3},
		{"abort", impl.ErrAborted, 0, "", 0},
		{"close", impl.ErrAborted, 0, "", 0},
		{"write a", impl.ErrAborted, 0, "", 0},
		{"fill 0 a", impl.ErrAborted, 0, "", 0},
		{"deliver 0 b 0", 0, 0, "", 0},
		{"stat", 0, 0, "8 0 20 8 2 1 0 4 4 0", 0},
		{"read 3", 0, 3, "abc", 0},
		{"wtick", 0, 0, "", 3},
		{"rtick", 0, 0, "", 3},
		{"deliver 2 f 1", 0, 0, "", 0},
		{"read 3", impl.ErrAborted, 0, "", 0},
		{"rtick", 0, 0, "", 0},
		{"tick", 0, 0, "", 3},
		{"deliver 1 f 0", 0, 0, "", 0},
		{"deliver 2 f 0", 0, 0, "", 0},
		{"fair 0", impl.ErrAborted, 0, "", 3},
		{"stat", 0, 0, "8 0 20 8 2 2 3 4 1 6", 0},
	})
	wantRows(t, "an abort behind a close, the end not told", "config 1 1 4 4 20 20 8 5 5 2 2 9", []row{
		{"write abcd", 0, 4, "", 1},
		{"close", 0, 0, "", 1},
		{"abort", 0, 0, "", 1},
		{"write a", impl.ErrAborted, 0, "", 0},
		{"close", impl.ErrAborted, 0, "", 0},
		{"deliver 0 f 0", 0, 0, "", 1},
		{"deliver 0 f 0", 0, 0, "", 1},
		{"read 9", 0, 4, "abcd", 0},
		{"deliver 0 f 0", 0, 0, "", 0},
		{"read 9", impl.ErrAborted, 0, "", 0},
		{"read 0", impl.ErrAborted, 0, "", 0},
	})
	wantRows(t, "an abort behind a close, the end told", "config 1 1 4 4 20 20 8 5 5 2 2 9", []row{
		{"write abcd", 0, 4, "", 1},
		{"close", 0, 0, "", 1},
		{"deliver 0 f 0", 0, 0, "", 1},
		{"deliver 0 f 0", 0, 0, "", 1},
		{"read 9", 0, 4, "abcd", 0},
		{"read 9", impl.EOF, 0, "", 0},
		{"abort", 0, 0, "", 1},
		{"deliver 0 f 0", 0, 0, "", 0},
		{"read 9", impl.EOF, 0, "", 0},
		{"rtick", 0, 0, "", 1},
		{"fair 0", impl.EOF, 0, "", 2},
		{"stat", 0, 0, "4 0 20 4 2 4 4 4 0 0", 0},
	})
}

func TestConnFairRound(t *testing.T) {
	wantRows(t, "both bags empty", "config 3 1 4 4 20 20 8 5 5 2 2 9", []row{
		{"fair 1", 0, 0, "", 3},
		{"deliver 1 b 0", impl.ErrIndex, 0, "", 0},
		{"deliver 0 b 0", 0, 0, "", 0},
		{"cut 1", 0, 0, "", 0},
		{"fair 1", 0, 0, "", 3},
		{"stat", 0, 0, "0 0 20 0 0 0 0 0 0 0", 0},
	})
	// The acknowledgements of the round itself are delivered in it, and what they set free goes out, but is not delivered any more.
	wantRows(t, "datagrams in both", "config 1 1 2 2 20 20 8 5 5 2 2 9", []row{
		{"write abcdefgh", 0, 8, "", 2},
		{"deliver 0 f 0", 0, 0, "", 1},
		{"fair 0", 0, 4, "abcd", 4},
		{"stat", 0, 0, "8 4 20 8 2 0 4 4 0 0", 0},
		{"deliver 0 b 0", impl.ErrIndex, 0, "", 0},
		{"drop 0 f 2", impl.ErrIndex, 0, "", 0},
		{"drop 0 f 1", 0, 0, "", 0},
		{"fair 0", 0, 2, "ef", 2},
		{"fair 0", 0, 0, "", 1},
	})
	// The writer's tick comes ahead of the deliveries, the read behind them.
	wantRows(t, "a timeout in the round", "config 1 1 2 2 20 20 8 1 1 2 2 9", []row{
		{"write ab", 0, 2, "", 1},
		{"drop 0 f 0", 0, 0, "", 0},
		{"fair 0", 0, 2, "ab", 3},
	})
}

// An acknowledgement of all that is mapped, and of one more once the end is mapped, is taken.
func TestConnAcknowledgements(t *testing.T) {
	wantRows(t, "up to Mapped and the end", "config 1 1 4 4 20 20 8 5 5 2 2 9", []row{
		{"write abcdef", 0, 6, "", 2},
		{"deliver 0 f 0", 0, 0, "", 1},
		{"deliver 0 f 0", 0, 0, "", 1},
		{"dup 0 b 1", 0, 0, "", 0},
		{"deliver 0 b 1", 0, 0, "", 0},
		{"stat", 0, 0, "6 6 20 6 0 0 0 6 6 0", 0},
		{"deliver 0 b 0", 0, 0, "", 0},
		{"stat", 0, 0, "6 6 20 6 0 0 0 6 6 0", 0},
		{"close", 0, 0, "", 1},
		{"deliver 0 b 0", 0, 0, "", 0},
		{"stat", 0, 0, "6 6 20 6 1 0 0 6 6 0", 0},
		{"deliver 0 f 0", 0, 0, "", 1},
		{"deliver 0 b 0", 0, 0, "", 0},
		{"stat", 0, 0, "6 7 21 6 0 0 0 6 6 0", 0},
	})
}

func TestConnDeath(t *testing.T) {
	// All deaths of a tick come ahead of what is sent on.
	wantRows(t, "all paths die at once", "config 2 1 4 4 20 20 8 1 1 1 3 0", []row{
		{"write abcdefgh", 0, 8, "", 2},
		{"cut 0", 0, 0, "", 0},
		{"cut 1", 0, 0, "", 0},
		{"wtick", 0, 0, "", 0},
		{"write ij", 0, 2, "", 0},
		{"read 9", 0, 0, "", 0},
		{"wtick", 0, 0, "", 0},
		{"wtick", 0, 0, "", 0},
		{"wtick", 0, 0, "", 2},
		{"up 0", 0, 0, "", 0},
		{"rtick", 0, 0, "", 2},
		// The path is alive again: its own frame, then that of the other, then what is new.
		{"deliver 0 b 0", 0, 0, "", 3},
		{"deliver 0 f 0", 0, 0, "", 1},
		{"deliver 0 f 0", 0, 0, "", 1},
		{"deliver 0 f 0", 0, 0, "", 1},
		{"read 20", 0, 10, "abcdefghij", 0},
		{"close", 0, 0, "", 1},
		// It dies once more, and the first acknowledgement that was left in its bag wakes it: three frames go out again.
		{"fair 0", impl.EOF, 0, "", 6},
	})
	wantRows(t, "what a dead path carried goes to another", "config 2 1 4 4 20 20 8 1 1 1 5 0", []row{
		{"write abcdefgh", 0, 8, "", 2},
		{"cut 0", 0, 0, "", 0},
		{"deliver 1 f 0", 0, 0, "", 1},
		{"deliver 1 b 0", 0, 0, "", 0},
		{"stat", 0, 0, "8 0 20 8 2 0 0 0 4 0", 0},
		{"wtick", 0, 0, "", 1},
		{"write ijkl", 0, 4, "", 1},
		{"deliver 1 f 0", 0, 0, "", 1},
		{"deliver 1 f 0", 0, 0, "", 1},
		{"read 20", 0, 12, "abcdefghijkl", 0},
	})
	// A frame is sent again with its bytes even when its mapping is gone.
	wantRows(t, "a revived path sends what was acknowledged elsewhere", "config 2 1 4 4 20 20 8 1 1 1 1 0", []row{
		{"write abcd", 0, 4, "", 1},
		{"drop 0 f 0", 0, 0, "", 0},
		{"wtick", 0, 0, "", 1},
		{"deliver 1 f 0", 0, 0, "", 1},
		{"deliver 1 b 0", 0, 0, "", 0},
		{"stat", 0, 0, "4 4 20 4 0 0 0 4 4 0", 0},
		{"wtick", 0, 0, "", 1},
		{"deliver 0 f 0", 0, 0, "", 1},
		{"deliver 0 b 0", 0, 0, "", 1},
		{"deliver 0 f 0", 0, 0, "", 1},
		{"deliver 0 b 0", 0, 0, "", 0},
		{"stat", 0, 0, "4 4 20 4 0 0 0 4 4 0", 0},
		{"write efgh", 0, 4, "", 1},
	})
}

// Lost datagrams are counted: on a cut path, and where the bag is full.
func TestConnSent(t *testing.T) {
	wantRows(t, "cut paths", "config 4 3 4 4 20 20 8 5 5 2 2 0", []row{
		{"cut 1", 0, 0, "", 0},
		{"cut 3", 0, 0, "", 0},
		{"write abcdef", 0, 6, "", 8},
		{"rtick", 0, 0, "", 4},
		{"tick", 0, 0, "", 4},
		{"fair 1", 0, 0, "", 4},
		{"close", 0, 0, "", 4},
		{"abort", 0, 0, "", 4},
		{"drop 1 f 0", impl.ErrIndex, 0, "", 0},
		{"drop 0 f 3", 0, 0, "", 0},
		{"drop 0 f 3", impl.ErrIndex, 0, "", 0},
	})
	rows := []row{{"fill 16 a", 0, 16, "", 16}}
	for range 5 {
		rows = append(rows, row{"wtick", 0, 0, "", 16})
	}
	rows = append(rows, []row{
		{"dup 0 f 63", impl.ErrFull, 0, "", 0},
		{"dup 0 f 64", impl.ErrIndex, 0, "", 0},
		{"drop 0 f 63", 0, 0, "", 0},
		{"dup 0 f 62", 0, 0, "", 0},
		{"dup 0 f 62", impl.ErrFull, 0, "", 0},
		{"close", 0, 0, "", 0},
		{"fair 0", 0, 16, strings.Repeat("a", 16), 16 + 1 + 64 + 1},
	}...)
	wantRows(t, "a full bag", "config 1 1 16 1 20 20 256 1 1 8 2 0", rows)
}

func TestConnPicks(t *testing.T) {
	wantRows(t, "picks wait for frames", "config 3 4 4 1 20 20 8 5 5 2 2 0", []row{
		{"pick 2", 0, 0, "", 0},
		{"pick 9", 0, 0, "", 0},
		{"pick 1", 0, 0, "", 0},
		{"write abcd", 0, 4, "", 4},
		{"deliver 2 f 0", 0, 0, "", 1},
		{"deliver 1 f 0", 0, 0, "", 1},
		{"deliver 0 f 0", 0, 0, "", 1},
		{"read 9", 0, 3, "abc", 0},
		{"deliver 0 f 0", 0, 0, "", 1},
		{"read 9", 0, 1, "d", 0},
	})
}

// The most that the limits leave room for: all lines, great bytes, and no line of it may take long.
func TestConnGreatest(t *testing.T) {
	s := newScriptMaker(rand.New(rand.NewSource(78)), impl.Config{Paths: 8, Policy: 3, Window: 16, Payload: 32, SendCap: 4096, RecvCap: 4096, MaxMaps: 256, Rto: 1, MaxRto: 2, DeadAfter: 8, ProbeEvery: 50, Isn: 4294967295})
	for i := range 300 {
		s.add(fmt.Sprint("fill 999999 ", string(rune('a'+i%26))))
		s.add("fair " + fmt.Sprint(i%8))
		s.add("stat")
	}
	wantAnswers(t, s)
}

// A fair round reads all that the greatest buffer can have.
func TestConnFullBuffer(t *testing.T) {
	all := strings.Repeat("q", impl.MaxCap)
	rows := []row{{"fill 4096 q", 0, 4096, "", 128}, {"write r", 0, 0, "", 0}}
	for i := range 128 {
		rows = append(rows, row{fmt.Sprintf("deliver %d f 0", i%8), 0, 0, "", 1})
	}
	rows = append(rows, row{"stat", 0, 0, "4096 0 4096 4096 128 0 0 4096 4096 0", 0}, row{"fair 7", 0, 4096, all, 8})
	wantRows(t, "a full buffer", "config 8 1 16 32 4096 4096 256 50 400 8 50 4294967295", rows)
}

// The same script has the same answers, and two runs have nothing in common.
func TestConnMemory(t *testing.T) {
	s := newScriptMaker(rand.New(rand.NewSource(79)), impl.Config{Paths: 3, Policy: 1, Window: 4, Payload: 4, SendCap: 50, RecvCap: 50, MaxMaps: 20, Rto: 2, MaxRto: 4, DeadAfter: 2, ProbeEvery: 2})
	for range 200 {
		s.add(s.chance())
	}
	first := impl.RunScript(s.script())
	second := impl.RunScript(s.script())
	if !sameValue(first, second) {
		t.Error("two runs of one script differ")
	}
	wantApart(t, "an outcome", first, second)
}
