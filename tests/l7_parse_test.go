package tests

import (
	"fmt"
	"math"
	"math/rand"
	"reflect"
	"strings"
	"testing"

	"loop.example/s03010/impl"
)

func TestConnNumbers(t *testing.T) {
	ops := []int64{impl.CmdWrite, impl.CmdFill, impl.CmdRead, impl.CmdClose, impl.CmdAbort, impl.CmdTick, impl.CmdWriterTick, impl.CmdReaderTick,
		impl.CmdDeliver, impl.CmdDrop, impl.CmdDup, impl.CmdCut, impl.CmdUp, impl.CmdPick, impl.CmdInject, impl.CmdFair, impl.CmdStat}
	for i, op := range ops {
		if op != int64(i+1) {
			t.Errorf("command %d of the chapter is %d", i+1, op)
		}
	}
	got := []int64{impl.MaxLine, impl.MaxScript, impl.MaxLines, impl.MaxBytes}
	if want := []int64{1000, 30000, 1000, 1 << 40}; !reflect.DeepEqual(got, want) {
		t.Errorf("the numbers of the chapter are %v, want %v", got, want)
	}
}

// configBounds are the least and the greatest of the numbers of a config line, beside a plain one. For MaxRto the least is Rto.
var configBounds = []struct {
	name  string
	plain int64
	least int64
	most  int64
}{
	{"Paths", 2, 1, 8},
	{"Policy", 1, 1, 4},
	{"Window", 4, 1, 16},
	{"Payload", 5, 1, 32},
	{"SendCap", 60, 1, 4096},
	{"RecvCap", 70, 1, 4096},
	{"MaxMaps", 8, 1, 256},
	{"Rto", 9, 1, 50},
	{"MaxRto", 100, 9, 400},
	{"DeadAfter", 3, 1, 8},
	{"ProbeEvery", 2, 1, 50},
	{"Isn", 7, 0, math.MaxUint32},
}

func plainNumbers() []int64 {
	var numbers []int64
	for _, b := range configBounds {
		numbers = append(numbers, b.plain)
	}
	return numbers
}

func lineOfNumbers(numbers []int64) string {
	line := "config"
	for _, x := range numbers {
		line += fmt.Sprint(" ", x)
	}
	return line
}

// configOfNumbers fills the fields in their order, as the type has them.
func configOfNumbers(numbers []int64) impl.Config {
	var cfg impl.Config
	v := reflect.ValueOf(&cfg).Elem()
	for i, x := range numbers {
		if f := v.Field(i); f.CanInt() {
			f.SetInt(x)
		} else {
			f.SetUint(uint64(x))
		}
	}
	return cfg
}

func wantConfigLine(t *testing.T, line string, want impl.Config, code int64) {
	t.Helper()
	got, c := impl.ParseConfig(line)
	if c != code || got != want {
		t.Errorf("%q: %v, code %d; want %v, code %d", line, got, c, want, code)
	}
	out := impl.RunScript(line + "\nstat\n")
	if out.Code != code || (code == impl.OK) != (len(out.Answers) == 1) {
		t.Errorf("%q as a script: %v, want code %d", line, out, code)
	}
	wantInspectCode(t, line, line+"\nstat\n", code)
}

// wantInspectCode asks that Inspect has RunScript's code, and tells nothing beside an error.
func wantInspectCode(t *testing.T, what, script string, code int64) {
	t.Helper()
	v, c := impl.Inspect(script)
	if c != code || (code != impl.OK) != sameValue(v, impl.View{}) {
		t.Errorf("%s: Inspect tells %+v, code %d, want code %d", what, v, c, code)
	}
}

func TestConfigBounds(t *testing.T) {
	for i, b := range configBounds {
		for _, x := range []int64{b.least, b.most, b.plain} {
			numbers := plainNumbers()
			numbers[i] = x
			wantConfigLine(t, lineOfNumbers(numbers), configOfNumbers(numbers), impl.OK)
			if impl.FairBound(configOfNumbers(numbers), 0) == 0 {
				t.Errorf("%s %d: no bound", b.name, x)
			}
		}
		for _, x := range []int64{0, b.least - 1, b.most + 1, 9999999999, 1<<32 + b.plain} {
			if x < 0 || x >= b.least && x <= b.most {
				continue
			}
			numbers := plainNumbers()
			numbers[i] = x
			wantConfigLine(t, lineOfNumbers(numbers), impl.Config{}, impl.ErrConfig)
		}
	}
	same := plainNumbers()
	same[7], same[8] = 50, 50
	wantConfigLine(t, lineOfNumbers(same), configOfNumbers(same), impl.OK)
	same[8] = 49
	wantConfigLine(t, lineOfNumbers(same), impl.Config{}, impl.ErrConfig)
}

func TestConfigLines(t *testing.T) {
	plain := lineOfNumbers(plainNumbers())
	for _, line := range []string{
		"", " ", "config", "config ", plain + " ", " " + plain, plain + " 1", plain + "\n", plain + "\r",
		strings.Replace(plain, " ", "  ", 1), strings.Replace(plain, " 60", "  60", 1), strings.Replace(plain, " 60", "\t60", 1),
		strings.Replace(plain, "config", "Config", 1), strings.Replace(plain, "config", "configs", 1), strings.Replace(plain, "config ", "", 1),
		strings.TrimSuffix(plain, " 7"), strings.TrimSuffix(plain, "7") + "a", strings.TrimSuffix(plain, "7") + "-7", strings.TrimSuffix(plain, "7") + "+7",
		strings.TrimSuffix(plain, "7") + "07", strings.TrimSuffix(plain, "7") + "00", strings.TrimSuffix(plain, "7") + "7\x1f", strings.TrimSuffix(plain, "7") + "7\x7f",
		strings.TrimSuffix(plain, "7") + "10000000000", strings.TrimSuffix(plain, "7") + "00000000007", strings.TrimSuffix(plain, "7") + "٧",
		strings.TrimSuffix(plain, "7") + "/", strings.TrimSuffix(plain, "7") + ":", strings.TrimSuffix(plain, "7") + "7e0", strings.TrimSuffix(plain, "7") + "0x7",
		strings.Replace(plain, " 2 ", " 02 ", 1), "write a", "stat", strings.Repeat("9", 2000), plain + strings.Repeat(" 1", 2000),
	} {
		if _, code := impl.ParseConfig(line); code != impl.ErrSyntax {
			t.Errorf("%q: code %d", line, code)
		}
		if cfg, _ := impl.ParseConfig(line); cfg != (impl.Config{}) {
			t.Errorf("%q: %v beside an error", line, cfg)
		}
	}
	// A number of the wrong form is told ahead of one that is too great.
	wantConfigLine(t, "config 9 1 4 5 60 70 8 9 100 3 2 07", impl.Config{}, impl.ErrSyntax)
	wantConfigLine(t, "config 9 1 4 5 60 70 8 9 100 3 2 4294967296", impl.Config{}, impl.ErrConfig)
	wantConfigLine(t, "config 9999999999 1 4 5 60 70 8 9 100 3 2 0", impl.Config{}, impl.ErrConfig)
	wantConfigLine(t, "config 99999999999 1 4 5 60 70 8 9 100 3 2 0", impl.Config{}, impl.ErrSyntax)
}

func wantLine(t *testing.T, line string) {
	t.Helper()
	want, code := lineModel(line)
	got, c := impl.ParseLine(line)
	if c != code || got != want {
		t.Errorf("%q: %+v, code %d; want %+v, code %d", line, got, c, want, code)
	}
}

func TestLineTable(t *testing.T) {
	for line, want := range map[string]impl.Command{
		"write a":                 {Op: 1, N: 1, Data: "a"},
		"write write":             {Op: 1, N: 5, Data: "write"},
		"write !~-0":              {Op: 1, N: 4, Data: "!~-0"},
		"fill 0 0":                {Op: 2, Data: "0"},
		"fill 999999 ~":           {Op: 2, N: 999999, Data: "~"},
		"read 100000":             {Op: 3, N: 100000},
		"close":                   {Op: 4},
		"abort":                   {Op: 5},
		"tick":                    {Op: 6},
		"wtick":                   {Op: 7},
		"rtick":                   {Op: 8},
		"deliver 7 f 63":          {Op: 9, Path: 7, Index: 63},
		"deliver 999999 b 999999": {Op: 9, Path: 999999, Dir: 1, Index: 999999},
		"drop 1 b 2":              {Op: 10, Path: 1, Dir: 1, Index: 2},
		"dup 3 f 4":               {Op: 11, Path: 3, Index: 4},
		"cut 5":                   {Op: 12, Path: 5},
		"up 6":                    {Op: 13, Path: 6},
		"pick 255":                {Op: 14, N: 255},
		"inject 2 b 00ff7a":       {Op: 15, Path: 2, Dir: 1, N: 3, Data: "\x00\xff\x7a"},
		"inject 0 f -":            {Op: 15},
		"fair 4":                  {Op: 16, Path: 4},
		"stat":                    {Op: 17},
	} {
		got, code := impl.ParseLine(line)
		if code != impl.OK || got != want {
			t.Errorf("%q: %+v, code %d; want %+v", line, got, code, want)
		}
		wantLine(t, line)
	}
}

// All lines of up to five words out of many, good and bad ones.
func TestLineWords(t *testing.T) {
	words := []string{"", "a", "f", "b", "-", "0", "00", "7", "07", "123456", "1234567", "-1", "+1", "0a", "0A", "xy", "F"}
	firsts := []string{"write", "fill", "read", "close", "abort", "tick", "wtick", "rtick", "deliver", "drop", "dup", "cut", "up", "pick", "inject", "fair", "stat", "", "Write", "writes", "config", "0"}
	for _, first := range firsts {
		wantLine(t, first)
		for _, a := range words {
			wantLine(t, first+" "+a)
			for _, b := range words {
				wantLine(t, first+" "+a+" "+b)
				for _, c := range words {
					wantLine(t, first+" "+a+" "+b+" "+c)
				}
			}
		}
		wantLine(t, first+" 0 f 0 0")
		wantLine(t, first+" 0 f 0a 0")
	}
}

func TestLineBytes(t *testing.T) {
	for x := range 256 {
		c := string([]byte{byte(x)})
		for _, line := range []string{"write " + c, "write a" + c, "write a" + c + "b", "fill 1 " + c, c + "stat", "stat" + c, "read 1" + c, "read" + c + "1", "inject 0 f 0" + c, "inject 0 f " + c + "0", "deliver 0 " + c + " 0", "up " + c} {
			wantLine(t, line)
		}
	}
	for line, want := range map[string]int64{
		"write a\x1fb": impl.ErrSyntax, "write a b": impl.ErrSyntax, "write a~b": impl.OK, "write a\x7fb": impl.ErrSyntax, "write a\x80b": impl.ErrSyntax,
		"write ä": impl.ErrSyntax, "write \xff": impl.ErrSyntax, "fill 1 ä": impl.ErrSyntax, "write\x00a": impl.ErrSyntax,
		" stat": impl.ErrSyntax, "stat ": impl.ErrSyntax, "read  1": impl.ErrSyntax, "read 1 ": impl.ErrSyntax, " ": impl.ErrSyntax, "  ": impl.ErrSyntax, "": impl.ErrSyntax,
	} {
		_, code := impl.ParseLine(line)
		wantCode(t, fmt.Sprintf("%q", line), code, want)
	}
}

func TestLineSizes(t *testing.T) {
	long := strings.Repeat("x", 994)
	c, code := impl.ParseLine("write " + long)
	if code != impl.OK || c != (impl.Command{Op: 1, N: 994, Data: long}) {
		t.Errorf("a line of 1000 bytes: code %d, N %d", code, c.N)
	}
	for _, line := range []string{"write " + long + "x", strings.Repeat(" ", 1001), strings.Repeat("\x01", 1001), strings.Repeat("x", 30000)} {
		c, code := impl.ParseLine(line)
		if code != impl.ErrLimit || c != (impl.Command{}) {
			t.Errorf("a line of %d bytes: %v, code %d", len(line), c, code)
		}
	}
	wantLine(t, strings.Repeat(" ", 1000))
	wantLine(t, strings.Repeat("\x01", 1000))
	for _, n := range []int{1, 2, 31, 63, 64, 65, 66, 400} {
		for _, more := range []string{"", "0", "g0", "0g"} {
			wantLine(t, "inject 0 f "+strings.Repeat("a5", n)+more)
		}
	}
}

// Lines that were bent at one place.
func TestLinesByChance(t *testing.T) {
	r := rand.New(rand.NewSource(71))
	lines := []string{"write abc", "fill 12 c", "read 120", "close", "deliver 3 f 10", "dup 0 b 999999", "inject 1 b 0a0bff", "fair 7", "stat", "pick 10"}
	letters := " 0123456789abfx-~\x1f\x7f"
	for range 20000 {
		b := []byte(lines[r.Intn(len(lines))])
		at := r.Intn(len(b))
		letter := letters[r.Intn(len(letters))]
		switch r.Intn(3) {
		case 0:
			b[at] = letter
		case 1:
			b = append(b[:at], b[at+1:]...)
		case 2:
			b = append(b[:at], append([]byte{letter}, b[at:]...)...)
		}
		wantLine(t, string(b))
	}
}

func wantScript(t *testing.T, what, script string, code int64, answers int) {
	t.Helper()
	out := impl.RunScript(script)
	if out.Code != code || len(out.Answers) != answers {
		t.Errorf("%s: code %d, %d answers; want code %d, %d answers", what, out.Code, len(out.Answers), code, answers)
	}
	wantInspectCode(t, what, script, code)
}

func TestScriptSizes(t *testing.T) {
	config := lineOfNumbers(plainNumbers()) + "\n"
	wantScript(t, "nothing", "", impl.ErrSyntax, 0)
	wantScript(t, "a newline", "\n", impl.ErrSyntax, 0)
	wantScript(t, "empty lines", strings.Repeat("\n", impl.MaxScript), impl.ErrSyntax, 0)
	wantScript(t, "one empty line too many", strings.Repeat("\n", impl.MaxScript+1), impl.ErrLimit, 0)
	wantScript(t, "a config alone", config, impl.OK, 0)
	wantScript(t, "a config without its newline", strings.TrimSuffix(config, "\n"), impl.OK, 0)
	wantScript(t, "a config behind empty lines", "\n\n"+config+"\n\n\nstat\n\n", impl.OK, 1)
	wantScript(t, "MaxLines lines", config+strings.Repeat("stat\n", 999), impl.OK, 999)
	wantScript(t, "MaxLines lines among empty ones", "\n"+config+strings.Repeat("stat\n\n", 999), impl.OK, 999)
	wantScript(t, "MaxLines lines, the last without its newline", config+strings.Repeat("stat\n", 998)+"stat", impl.OK, 999)
	wantScript(t, "one line too many", config+strings.Repeat("stat\n", 1000), impl.ErrLimit, 0)
	wantScript(t, "too many lines without a config", strings.Repeat("x\n", 1001), impl.ErrLimit, 0)
	wantScript(t, "MaxLines lines without a config", strings.Repeat("x\n", 1000), impl.ErrSyntax, 0)
	full := config + strings.Repeat("\n", impl.MaxScript-len(config)-4) + "stat"
	wantScript(t, "MaxScript bytes", full, impl.OK, 1)
	wantScript(t, "one byte too many", full+"\n", impl.ErrLimit, 0)
	wantScript(t, "too many bytes without a config", strings.Repeat("x", impl.MaxScript+1), impl.ErrLimit, 0)
	wantScript(t, "MaxScript bytes without a config", strings.Repeat("x", impl.MaxScript), impl.ErrSyntax, 0)
}

func TestScriptHeads(t *testing.T) {
	config := lineOfNumbers(plainNumbers())
	wantScript(t, "a config behind a line", "stat\n"+config, impl.ErrSyntax, 0)
	wantScript(t, "a config with a return", config+"\r\nstat", impl.ErrSyntax, 0)
	wantScript(t, "a space ahead", " \n"+config, impl.ErrSyntax, 0)
	wantScript(t, "a wrong config", "config 9 1 4 5 60 70 8 9 100 3 2 7\nstat", impl.ErrConfig, 0)
	out := impl.RunScript(config + "\n" + config + "\n \nstat\n" + strings.Repeat("x", 1001) + "\nnothing\nfair 2\nup 2\nup 1")
	var codes []int64
	for _, a := range out.Answers {
		codes = append(codes, a.Code)
	}
	if want := []int64{impl.ErrSyntax, impl.ErrSyntax, impl.OK, impl.ErrLimit, impl.ErrSyntax, impl.ErrPath, impl.ErrPath, impl.OK}; !reflect.DeepEqual(codes, want) {
		t.Errorf("codes %v, want %v", codes, want)
	}
}

func TestFairBound(t *testing.T) {
	least := impl.Config{Paths: 1, Policy: 1, Window: 1, Payload: 1, SendCap: 1, RecvCap: 1, MaxMaps: 1, Rto: 1, MaxRto: 1, DeadAfter: 1, ProbeEvery: 1}
	most := impl.Config{Paths: 8, Policy: 4, Window: 16, Payload: 32, SendCap: 4096, RecvCap: 4096, MaxMaps: 256, Rto: 50, MaxRto: 400, DeadAfter: 8, ProbeEvery: 50, Isn: math.MaxUint32}
	for _, c := range []struct {
		cfg   impl.Config
		bytes int64
		want  int64
	}{
		{least, 0, 2*5 + 2*5},
		{least, 1, 2*5 + 2*6},
		{least, 1 << 40, 2*5 + 2*(1<<40+5)},
		{most, 0, 9*3204 + 2*20},
		{most, 1 << 40, 9*3204 + 2*(1<<40+20)},
		{least, -1, 0},
		{least, 1<<40 + 1, 0},
		{least, math.MinInt64, 0},
		{most, math.MaxInt64, 0},
		{impl.Config{}, 0, 0},
	} {
		if got := impl.FairBound(c.cfg, c.bytes); got != c.want {
			t.Errorf("%v, %d bytes: %d, want %d", c.cfg, c.bytes, got, c.want)
		}
	}
}

// Each field of a config one below its least, one above its greatest and far off.
func TestFairBoundRefuses(t *testing.T) {
	for i, b := range configBounds[:11] {
		for _, x := range append([]int64{b.least - 1, b.most + 1}, wildNumbers...) {
			numbers := plainNumbers()
			numbers[i] = x
			if got := impl.FairBound(configOfNumbers(numbers), 5); got != 0 {
				t.Errorf("%s %d: %d", b.name, x, got)
			}
		}
	}
}
