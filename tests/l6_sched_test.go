package tests

import (
	"fmt"
	"math"
	"math/rand"
	"reflect"
	"testing"

	"loop.example/s03010/impl"
)

func TestSchedNumbers(t *testing.T) {
	got := []uint64{impl.PolicyRound, impl.PolicyBacklog, impl.PolicyAll, impl.PolicyScript,
		impl.PlanNone, impl.PlanAgain, impl.PlanData, impl.PlanFin, impl.TopMaps, impl.MaxPicks, impl.MaxOffset}
	if want := []uint64{1, 2, 3, 4, 0, 1, 2, 3, 256, 1000, 1 << 62}; !reflect.DeepEqual(got, want) {
		t.Errorf("the numbers of the chapter are %v, want %v", got, want)
	}
}

// wildNumbers are wrong wherever a small number is asked for.
var wildNumbers = []int64{-1, math.MinInt64, math.MaxInt64, 1<<32 + 1, -1 << 32}

// live are n paths that may all be chosen.
func live(n int) []impl.PathView {
	paths := make([]impl.PathView, n)
	for i := range paths {
		paths[i] = impl.PathView{Alive: 1, Backlog: 3, Room: 1}
	}
	return paths
}

// eligiblePaths are those that may be chosen, in rising order.
func eligiblePaths(paths []impl.PathView, barred int64) []int64 {
	var free []int64
	for i, p := range paths {
		isBarred := barred/(1<<i)%2 == 1
		if p.Alive == 1 && p.Room > 0 && !isBarred {
			free = append(free, int64(i))
		}
	}
	return free
}

// pickModel chooses by the chapter's words; the arguments are valid.
func pickModel(policy, turn, pick int64, paths []impl.PathView, barred int64) ([]int64, int64) {
	free := eligiblePaths(paths, barred)
	if len(free) == 0 {
		return nil, turn
	}
	switch policy {
	case impl.PolicyAll:
		return free, turn
	case impl.PolicyRound:
		chosen := free[0]
		for _, p := range free {
			if p >= turn {
				chosen = p
				break
			}
		}
		if chosen == int64(len(paths))-1 {
			return []int64{chosen}, 0
		}
		return []int64{chosen}, chosen + 1
	}
	chosen := free[0]
	for _, p := range free {
		if policy == impl.PolicyScript && p == pick || policy == impl.PolicyBacklog && paths[p].Backlog < paths[chosen].Backlog {
			chosen = p
		}
	}
	return []int64{chosen}, turn
}

func wantPick(t *testing.T, policy, turn, pick int64, paths []impl.PathView, barred int64) {
	t.Helper()
	want, wantTurn := pickModel(policy, turn, pick, paths, barred)
	got, next, code := impl.Pick(policy, turn, pick, paths, barred)
	if code != impl.OK || next != wantTurn || !sameValue(got, want) {
		t.Fatalf("policy %d, turn %d, pick %d, paths %v, barred %d: %v, turn %d, code %d; want %v, turn %d", policy, turn, pick, paths, barred, got, next, code, want, wantTurn)
	}
}

// All lists of three paths, each dead, without room, or with a backlog of 0 or 1.
func TestPickSmall(t *testing.T) {
	kinds := []impl.PathView{{Alive: 0, Room: 1}, {Alive: 1, Room: 0}, {Alive: 1, Backlog: 0, Room: 1}, {Alive: 1, Backlog: 1, Room: 1}}
	for n := range 64 {
		paths := []impl.PathView{kinds[n%4], kinds[n/4%4], kinds[n/16]}
		for policy := int64(1); policy <= 4; policy++ {
			for turn := range int64(3) {
				for pick := int64(-1); pick < 4; pick++ {
					for barred := range int64(9) {
						wantPick(t, policy, turn, pick, paths, barred)
					}
				}
			}
		}
	}
}

func somePaths(r *rand.Rand) []impl.PathView {
	paths := make([]impl.PathView, 1+r.Intn(8))
	for i := range paths {
		paths[i] = impl.PathView{Alive: int64(min(1, r.Intn(4))), Backlog: r.Int63n(4), Room: r.Int63n(4)}
		if r.Intn(8) == 0 {
			paths[i].Backlog, paths[i].Room = impl.MaxWindow, impl.MaxWindow
		}
	}
	return paths
}

// somePick is a number by chance, most often that of a path.
func somePick(r *rand.Rand) int64 {
	if r.Intn(6) == 0 {
		return wildNumbers[r.Intn(len(wildNumbers))]
	}
	return r.Int63n(9)
}

func TestPickByChance(t *testing.T) {
	r := rand.New(rand.NewSource(61))
	for range 60000 {
		paths := somePaths(r)
		wantPick(t, 1+r.Int63n(4), r.Int63n(int64(len(paths))), somePick(r), paths, r.Int63n(256)&r.Int63n(256))
	}
}

// Each policy with no eligible path, with one, and going round behind the last.
func TestPickEdges(t *testing.T) {
	for count := 1; count <= impl.MaxPaths; count++ {
		for policy := int64(1); policy <= 4; policy++ {
			for turn := range int64(count) {
				wantPick(t, policy, turn, turn, live(count), 255)
				wantPick(t, policy, turn, turn, live(count), 0)
				got, next, code := impl.Pick(policy, turn, 0, make([]impl.PathView, count), 0)
				if len(got) != 0 || next != turn || code != impl.OK {
					t.Errorf("policy %d of %d dead paths: %v, turn %d, code %d", policy, count, got, next, code)
				}
				for only := range int64(count) {
					wantOnly(t, policy, turn, only, count)
				}
			}
		}
	}
}

// wantOnly asks for the one eligible path, whether the others are barred, dead or full.
func wantOnly(t *testing.T, policy, turn, only int64, count int) {
	t.Helper()
	dead, full := live(count), live(count)
	for i := range count {
		if int64(i) != only {
			dead[i].Alive, full[i].Room = 0, 0
		}
	}
	wantTurn := turn
	if policy == impl.PolicyRound {
		wantTurn = (only + 1) % int64(count)
	}
	for _, r := range []struct {
		paths  []impl.PathView
		barred int64
	}{{live(count), 255 - 1<<only}, {dead, 0}, {full, 255 - 1<<only}, {full, 0}} {
		got, next, code := impl.Pick(policy, turn, 5-only, r.paths, r.barred)
		if !sameValue(got, []int64{only}) || next != wantTurn || code != impl.OK {
			t.Errorf("policy %d, turn %d, path %d of %d alone: %v, turn %d, code %d", policy, turn, only, count, got, next, code)
		}
	}
}

// wrongPaths are path lists that are not valid, by what is wrong.
func wrongPaths() map[string][]impl.PathView {
	wrong := map[string][]impl.PathView{"none": nil, "empty": {}, "nine": live(9), "many": live(1000)}
	for place := range 3 {
		for _, x := range append([]int64{17, 256}, wildNumbers...) {
			a, b, c := live(3), live(3), live(3)
			a[place].Alive, b[place].Backlog, c[place].Room = x, x, x
			wrong[fmt.Sprintf("Alive %d at %d", x, place)] = a
			wrong[fmt.Sprintf("Backlog %d at %d", x, place)] = b
			wrong[fmt.Sprintf("Room %d at %d", x, place)] = c
		}
	}
	two := live(2)
	two[1].Alive = 2
	wrong["Alive 2"] = two
	return wrong
}

func wantPickCode(t *testing.T, what string, policy, turn int64, paths []impl.PathView, barred, want int64) {
	t.Helper()
	got, next, code := impl.Pick(policy, turn, 1, paths, barred)
	wantCode(t, what, code, want)
	if code != impl.OK && (len(got) != 0 || next != 0) {
		t.Errorf("%s: refused, and yet %v, turn %d", what, got, next)
	}
}

func TestPickRefused(t *testing.T) {
	for _, policy := range append([]int64{0, 5}, wildNumbers...) {
		what := fmt.Sprintf("policy %d", policy)
		wantPickCode(t, what, policy, 1, live(3), 0, impl.ErrConfig)
		wantPickCode(t, what+", no paths, turn and barred", policy, 9, nil, -1, impl.ErrConfig)
	}
	for policy := int64(1); policy <= 4; policy++ {
		for what, paths := range wrongPaths() {
			wantPickCode(t, what, policy, 0, paths, 0, impl.ErrPath)
			wantPickCode(t, what+", turn and barred", policy, 9, paths, 256, impl.ErrPath)
		}
		for count := 1; count <= 8; count++ {
			for _, turn := range append([]int64{int64(count)}, wildNumbers...) {
				wantPickCode(t, fmt.Sprintf("turn %d of %d", turn, count), policy, turn, live(count), 0, impl.ErrRange)
				wantPickCode(t, fmt.Sprintf("turn %d of %d, none eligible", turn, count), policy, turn, live(count), 255, impl.ErrRange)
			}
			for _, barred := range append([]int64{256}, wildNumbers...) {
				wantPickCode(t, fmt.Sprintf("barred %d", barred), policy, 0, live(count), barred, impl.ErrRange)
			}
		}
		most := []impl.PathView{{Alive: 1, Backlog: 16, Room: 16}, {Alive: 0, Backlog: 0, Room: 0}}
		wantPickCode(t, "the bounds", policy, 1, most, 255, impl.OK)
	}
}

// chain is n mappings of two bytes each, one behind the other.
func chain(n int) []impl.Mapping {
	maps := make([]impl.Mapping, n)
	for i := range maps {
		maps[i] = impl.Mapping{Off: uint64(2 * i), Len: 2, Carriers: 1 + int64(i)%255}
	}
	return maps
}

// someMaps is a valid mapping list by chance.
func someMaps(r *rand.Rand, most int) []impl.Mapping {
	var maps []impl.Mapping
	at := uint64(r.Intn(20))
	if r.Intn(10) == 0 {
		at = impl.MaxOffset - 500
	}
	for range r.Intn(most + 1) {
		at += uint64(r.Intn(3) * r.Intn(3))
		m := impl.Mapping{Off: at, Len: 1 + r.Int63n(5), Carriers: 1 + r.Int63n(255)&r.Int63n(255), Queued: r.Int63n(2)}
		maps = append(maps, m)
		at += uint64(m.Len)
	}
	if len(maps) > 0 && r.Intn(3) == 0 {
		last := &maps[len(maps)-1]
		last.Len, last.Fin = 0, 1
	}
	return maps
}

// wrongMaps are mapping lists that are not valid, by what is wrong; each of three mappings but for those that name another number.
func wrongMaps() map[string][]impl.Mapping {
	wrong := map[string][]impl.Mapping{"one above TopMaps": chain(257)}
	bend := func(what string, place int, change func(m *impl.Mapping)) {
		maps := chain(3)
		change(&maps[place])
		wrong[fmt.Sprintf("%s at %d", what, place)] = maps
	}
	for place := range 3 {
		for _, x := range append([]int64{33, 256}, wildNumbers...) {
			bend(fmt.Sprintf("Len %d", x), place, func(m *impl.Mapping) { m.Len = x })
			bend(fmt.Sprintf("Fin %d", x), place, func(m *impl.Mapping) { m.Fin = x })
			bend(fmt.Sprintf("Fin %d and no Len", x), place, func(m *impl.Mapping) { m.Fin, m.Len = x, 0 })
			bend(fmt.Sprintf("Queued %d", x), place, func(m *impl.Mapping) { m.Queued = x })
		}
		for _, x := range append([]int64{0, 256}, wildNumbers...) {
			bend(fmt.Sprintf("Carriers %d", x), place, func(m *impl.Mapping) { m.Carriers = x })
		}
		bend("no Len", place, func(m *impl.Mapping) { m.Len = 0 })
		bend("Fin with Len", place, func(m *impl.Mapping) { m.Fin = 1 })
		bend("Fin with a Len of 1", place, func(m *impl.Mapping) { m.Fin, m.Len = 1, 1 })
		bend("Fin 2", place, func(m *impl.Mapping) { m.Fin, m.Len = 2, 0 })
		bend("Queued 2", place, func(m *impl.Mapping) { m.Queued = 2 })
		for _, off := range []uint64{impl.MaxOffset + 1, 1 << 63, topOffset - 31, topOffset - 1, topOffset} {
			bend(fmt.Sprintf("Off %d", off), place, func(m *impl.Mapping) { m.Off = off })
		}
	}
	bend("one byte over the next", 0, func(m *impl.Mapping) { m.Len = 3 })
	bend("one byte into the one before", 1, func(m *impl.Mapping) { m.Off-- })
	bend("the Off of the one before", 2, func(m *impl.Mapping) { m.Off = 2 })
	bend("from 0 on again", 2, func(m *impl.Mapping) { m.Off = 0 })
	bend("Fin ahead of the last", 1, func(m *impl.Mapping) { m.Fin, m.Len = 1, 0 })
	bend("Fin at first", 0, func(m *impl.Mapping) { m.Fin, m.Len = 1, 0 })
	bend("Fin inside the one before", 2, func(m *impl.Mapping) { m.Off, m.Fin, m.Len = 3, 1, 0 })
	wrong["two Fins"] = []impl.Mapping{{Off: 4, Fin: 1, Carriers: 1}, {Off: 4, Fin: 1, Carriers: 1}}
	wrong["two Fins apart"] = []impl.Mapping{{Off: 4, Fin: 1, Carriers: 1}, {Off: 9, Fin: 1, Carriers: 1}}
	wrong["a zero one"] = []impl.Mapping{{}}
	return wrong
}

// edgeMaps are valid mapping lists at the edges that the document names.
func edgeMaps() [][]impl.Mapping {
	return [][]impl.Mapping{
		nil,
		{},
		{{Off: 0, Len: 1, Carriers: 1}},
		{{Off: impl.MaxOffset, Len: 32, Carriers: 255, Queued: 1}},
		{{Off: impl.MaxOffset, Fin: 1, Carriers: 255}},
		{{Off: 0, Fin: 1, Carriers: 128, Queued: 1}},
		{{Off: 0, Len: 32, Carriers: 1}, {Off: 32, Len: 32, Carriers: 2, Queued: 1}, {Off: 64, Fin: 1, Carriers: 4}},
		{{Off: 5, Len: 3, Carriers: 1}, {Off: 9, Len: 1, Carriers: 2}, {Off: 100, Fin: 1, Carriers: 4}},
		{{Off: impl.MaxOffset - 1, Len: 1, Carriers: 7}, {Off: impl.MaxOffset, Len: 2, Carriers: 9}},
		chain(255),
		chain(256),
	}
}

func ackModel(maps []impl.Mapping, acked uint64) []impl.Mapping {
	var left []impl.Mapping
	for _, m := range maps {
		end := m.Off + uint64(m.Len)
		if m.Fin == 1 {
			end = m.Off + 1
		}
		if end > acked {
			left = append(left, m)
		}
	}
	return left
}

func queueModel(maps []impl.Mapping, alive int64) []impl.Mapping {
	var out []impl.Mapping
	for _, m := range maps {
		carried := false
		for p := range 8 {
			carried = carried || m.Carriers/(1<<p)%2 == 1 && alive/(1<<p)%2 == 1
		}
		if !carried {
			m.Queued = 1
		}
		out = append(out, m)
	}
	return out
}

func wantAck(t *testing.T, maps []impl.Mapping, acked uint64) {
	t.Helper()
	before := append([]impl.Mapping(nil), maps...)
	got, code := impl.AckMaps(maps, acked)
	if want := ackModel(maps, acked); code != impl.OK || !sameValue(got, want) {
		t.Fatalf("%v, acknowledged %d: %v, code %d; want %v", maps, acked, got, code, want)
	}
	wantApart(t, "AckMaps", got, maps)
	if !sameValue(maps, before) {
		t.Fatalf("AckMaps wrote into %v", before)
	}
}

func wantQueue(t *testing.T, maps []impl.Mapping, alive int64) {
	t.Helper()
	before := append([]impl.Mapping(nil), maps...)
	got, code := impl.QueueMaps(maps, alive)
	if want := queueModel(maps, alive); code != impl.OK || !sameValue(got, want) {
		t.Fatalf("%v, alive %d: %v, code %d; want %v", maps, alive, got, code, want)
	}
	wantApart(t, "QueueMaps", got, maps)
	if !sameValue(maps, before) {
		t.Fatalf("QueueMaps wrote into %v", before)
	}
}

// Promise 11.
func TestMapsByChance(t *testing.T) {
	r := rand.New(rand.NewSource(62))
	for range 20000 {
		maps := someMaps(r, 8)
		top := uint64(20)
		if n := len(maps); n > 0 {
			top = maps[n-1].Off + 8
		}
		wantAck(t, maps, top-uint64(r.Int63n(int64(min(top, 60)))))
		wantQueue(t, maps, r.Int63n(256)&r.Int63n(256))
	}
}

// A mapping's end at the acknowledged number, one below and one above.
func TestMapsEdges(t *testing.T) {
	for _, maps := range edgeMaps() {
		for _, acked := range []uint64{0, 1, 1 << 62, 1<<62 + 1, 1 << 63, topOffset} {
			wantAck(t, maps, acked)
		}
		for _, m := range maps {
			for _, acked := range []uint64{m.Off, m.Off + uint64(m.Len), m.Off + uint64(m.Len) + 1, m.Off + uint64(m.Len) + 2, m.Off + 1} {
				wantAck(t, maps, acked)
			}
			if m.Len > 0 {
				wantAck(t, maps, m.Off+uint64(m.Len)-1)
			}
		}
		for alive := range int64(256) {
			wantQueue(t, maps, alive)
		}
	}
	data := impl.Mapping{Off: 7, Len: 3, Carriers: 2}
	fin := impl.Mapping{Off: 10, Fin: 1, Carriers: 2}
	for acked, want := range map[uint64][]impl.Mapping{9: {data, fin}, 10: {fin}, 11: nil} {
		got, _ := impl.AckMaps([]impl.Mapping{data, fin}, acked)
		if !sameValue(got, want) {
			t.Errorf("acknowledged %d: %v, want %v", acked, got, want)
		}
	}
}

func TestMapsRefused(t *testing.T) {
	wrong := wrongMaps()
	for what, maps := range wrong {
		for _, acked := range []uint64{0, 3, topOffset} {
			left, code := impl.AckMaps(maps, acked)
			wantCode(t, "AckMaps: "+what, code, impl.ErrForm)
			if len(left) != 0 {
				t.Errorf("%s: refused, and yet %v", what, left)
			}
		}
		for _, alive := range append([]int64{0, 255, 256}, wildNumbers...) {
			queued, code := impl.QueueMaps(maps, alive)
			wantCode(t, "QueueMaps: "+what, code, impl.ErrForm)
			if len(queued) != 0 {
				t.Errorf("%s: refused, and yet %v", what, queued)
			}
		}
	}
	for _, maps := range edgeMaps() {
		for _, alive := range append([]int64{256}, wildNumbers...) {
			queued, code := impl.QueueMaps(maps, alive)
			wantCode(t, fmt.Sprintf("alive %d", alive), code, impl.ErrRange)
			if len(queued) != 0 {
				t.Errorf("alive %d: refused, and yet %v", alive, queued)
			}
		}
	}
}

// frameModel tells the next frame by the chapter's words, and what is barred to it; the input is valid.
func frameModel(in impl.SchedInput) (impl.Plan, int64) {
	for i, m := range in.Maps {
		if m.Queued == 1 && len(eligiblePaths(in.Paths, m.Carriers)) > 0 {
			return impl.Plan{Kind: impl.PlanAgain, Place: int64(i), Off: m.Off, Len: m.Len}, m.Carriers
		}
	}
	free := len(eligiblePaths(in.Paths, 0)) > 0 && int64(len(in.Maps)) < in.MaxMaps
	if free && in.Mapped < in.Written && in.Mapped < in.Edge {
		size := in.Payload
		for size > int64(in.Written-in.Mapped) || size > int64(in.Edge-in.Mapped) {
			size--
		}
		return impl.Plan{Kind: impl.PlanData, Off: in.Mapped, Len: size}, 0
	}
	if free && in.Closed == 1 && in.FinMapped == 0 && in.Mapped == in.Written {
		return impl.Plan{Kind: impl.PlanFin, Off: in.Written}, 0
	}
	return impl.Plan{}, 0
}

func planModel(in impl.SchedInput) impl.Plan {
	plan, barred := frameModel(in)
	plan.Turn = in.Turn
	if plan.Kind == impl.PlanNone {
		return plan
	}
	pick := int64(0)
	if len(in.Picks) > 0 {
		pick = in.Picks[0]
	}
	plan.Paths, plan.Turn = pickModel(in.Policy, in.Turn, pick, in.Paths, barred)
	if in.Policy == impl.PolicyScript && len(in.Picks) > 0 {
		plan.Used = 1
	}
	return plan
}

// copyInput keeps what an input was.
func copyInput(in impl.SchedInput) impl.SchedInput {
	in.Picks = append([]int64(nil), in.Picks...)
	in.Paths = append([]impl.PathView(nil), in.Paths...)
	in.Maps = append([]impl.Mapping(nil), in.Maps...)
	return in
}

// wantPlan holds a plan against the model, asks for promise 10 and tells the plan.
func wantPlan(t *testing.T, what string, in impl.SchedInput) impl.Plan {
	t.Helper()
	before := copyInput(in)
	got, code := impl.PlanSend(in)
	if want := planModel(in); code != impl.OK || !sameValue(got, want) {
		t.Fatalf("%s: %v: %v, code %d; want %v", what, in, got, code, want)
	}
	wantApart(t, what, got, in)
	if !sameValue(in, before) {
		t.Fatalf("%s: PlanSend wrote into %v", what, before)
	}
	barred := int64(0)
	switch got.Kind {
	case impl.PlanAgain:
		barred = in.Maps[got.Place].Carriers
	case impl.PlanData:
		if got.Len < 1 || got.Len > in.Payload || got.Off+uint64(got.Len) > min(in.Written, in.Edge) {
			t.Fatalf("%s: %v: %v goes too far", what, in, got)
		}
	}
	if got.Kind > impl.PlanAgain && int64(len(in.Maps)) >= in.MaxMaps {
		t.Fatalf("%s: %v: %v asks for one mapping too many", what, in, got)
	}
	for _, p := range got.Paths {
		if in.Paths[p].Alive != 1 || in.Paths[p].Room < 1 || barred>>p&1 == 1 {
			t.Fatalf("%s: %v: %v chose a wrong path", what, in, got)
		}
	}
	if (got.Kind == impl.PlanNone) != (len(got.Paths) == 0) {
		t.Fatalf("%s: %v: %v", what, in, got)
	}
	return got
}

// someInput is a valid input by chance.
func someInput(r *rand.Rand) impl.SchedInput {
	in := impl.SchedInput{Policy: 1 + r.Int63n(4), Paths: somePaths(r), Maps: someMaps(r, 5), Payload: 1 + r.Int63n(32),
		Closed: r.Int63n(2), FinMapped: int64(max(0, r.Intn(4)-2))}
	if r.Intn(2) == 0 {
		for i := range in.Maps {
			in.Maps[i].Queued = 0
		}
	}
	in.Turn = r.Int63n(int64(len(in.Paths)))
	in.MaxMaps = max(1, int64(len(in.Maps))) + r.Int63n(2)*r.Int63n(4)
	in.Mapped = uint64(r.Intn(60))
	in.Written = in.Mapped + uint64(r.Intn(2)*r.Intn(40))
	in.Edge = uint64(max(0, int64(in.Mapped)+r.Int63n(50)-10))
	if r.Intn(20) == 0 {
		in.Mapped = impl.MaxOffset - uint64(r.Intn(3))
		in.Written, in.Edge = impl.MaxOffset, impl.MaxOffset-uint64(r.Intn(3))
	}
	for range r.Intn(3) {
		in.Picks = append(in.Picks, somePick(r))
	}
	return in
}

// Promise 10.
func TestPlanByChance(t *testing.T) {
	r := rand.New(rand.NewSource(63))
	seen := map[int64]int{}
	for range 60000 {
		seen[wantPlan(t, "by chance", someInput(r)).Kind]++
	}
	for kind := range int64(4) {
		if seen[kind] < 2000 {
			t.Errorf("only %d plans of the kind %d", seen[kind], kind)
		}
	}
}

// plainInput has data to send, nothing queued, and two paths.
func plainInput() impl.SchedInput {
	return impl.SchedInput{Policy: impl.PolicyRound, Turn: 1, Picks: []int64{0, 1}, Paths: live(2), Maps: chain(3),
		MaxMaps: 8, Mapped: 6, Written: 50, Edge: 40, Payload: 10}
}

func wantThisPlan(t *testing.T, what string, in impl.SchedInput, want impl.Plan) {
	t.Helper()
	if got := wantPlan(t, what, in); !sameValue(got, want) {
		t.Errorf("%s: %v, want %v", what, got, want)
	}
}

// The first of the cases that applies: again, data, the end, nothing.
func TestPlanOrder(t *testing.T) {
	in := plainInput()
	in.Closed = 1
	wantThisPlan(t, "data ahead of the end", in, impl.Plan{Kind: impl.PlanData, Off: 6, Len: 10, Paths: []int64{1}})
	in.Maps[1].Queued, in.Maps[2].Queued = 1, 1
	in.Maps[1].Carriers = 2
	wantThisPlan(t, "again ahead of data", in, impl.Plan{Kind: impl.PlanAgain, Place: 1, Off: 2, Len: 2, Paths: []int64{0}, Turn: 1})
	in.Maps[1].Carriers = 3
	in.Maps[2].Carriers = 253
	wantThisPlan(t, "the first that some path may carry", in, impl.Plan{Kind: impl.PlanAgain, Place: 2, Off: 4, Len: 2, Paths: []int64{1}})
	in.Maps[2].Carriers = 255
	wantThisPlan(t, "data when no path is left for what is queued", in, impl.Plan{Kind: impl.PlanData, Off: 6, Len: 10, Paths: []int64{1}})
	in.Mapped = 50
	wantThisPlan(t, "the end then", in, impl.Plan{Kind: impl.PlanFin, Off: 50, Paths: []int64{1}})
	in.FinMapped = 1
	wantThisPlan(t, "nothing then", in, impl.Plan{Turn: 1})
	in.Maps[2].Carriers = 1
	in.MaxMaps = 3
	wantThisPlan(t, "again needs no new mapping", in, impl.Plan{Kind: impl.PlanAgain, Place: 2, Off: 4, Len: 2, Paths: []int64{1}})
	in.Maps = append(in.Maps[:2], impl.Mapping{Off: 50, Fin: 1, Carriers: 2, Queued: 1})
	wantThisPlan(t, "the end again", in, impl.Plan{Kind: impl.PlanAgain, Place: 2, Off: 50, Len: 0, Paths: []int64{0}, Turn: 1})
	in.Paths = make([]impl.PathView, 2)
	wantThisPlan(t, "nothing without a path", in, impl.Plan{Turn: 1})
}

// Data up to the least of Payload, Written and Edge, and none at any of them.
func TestPlanData(t *testing.T) {
	for _, r := range []struct {
		mapped, written, edge uint64
		payload, size         int64
	}{
		{6, 50, 40, 10, 10}, {6, 16, 40, 10, 10}, {6, 15, 40, 10, 9}, {6, 7, 40, 10, 1}, {6, 6, 40, 10, 0},
		{6, 50, 16, 10, 10}, {6, 50, 15, 10, 9}, {6, 50, 7, 10, 1}, {6, 50, 6, 10, 0}, {6, 50, 5, 10, 0}, {6, 50, 0, 10, 0},
		{6, 9, 8, 10, 2}, {6, 8, 9, 10, 2}, {6, 50, 40, 1, 1}, {6, 50, 40, 32, 32},
		{0, impl.MaxOffset, impl.MaxOffset, 32, 32},
		{impl.MaxOffset - 32, impl.MaxOffset, impl.MaxOffset, 32, 32},
		{impl.MaxOffset - 31, impl.MaxOffset, impl.MaxOffset, 32, 31},
		{impl.MaxOffset - 1, impl.MaxOffset, impl.MaxOffset, 32, 1},
		{impl.MaxOffset, impl.MaxOffset, impl.MaxOffset, 32, 0},
	} {
		in := plainInput()
		in.Mapped, in.Written, in.Edge, in.Payload = r.mapped, r.written, r.edge, r.payload
		want := impl.Plan{Turn: 1}
		if r.size > 0 {
			want = impl.Plan{Kind: impl.PlanData, Off: r.mapped, Len: r.size, Paths: []int64{1}}
		}
		wantThisPlan(t, fmt.Sprintf("%v", r), in, want)
		in.MaxMaps = 4
		wantThisPlan(t, "the last mapping that fits", in, want)
		in.MaxMaps = 3
		wantThisPlan(t, "no room for a mapping", in, impl.Plan{Turn: 1})
	}
	in := plainInput()
	in.Maps, in.MaxMaps = chain(255), impl.TopMaps
	wantThisPlan(t, "the last of TopMaps mappings", in, impl.Plan{Kind: impl.PlanData, Off: 6, Len: 10, Paths: []int64{1}})
	in.Maps = chain(256)
	wantThisPlan(t, "TopMaps mappings", in, impl.Plan{Turn: 1})
}

func TestPlanFin(t *testing.T) {
	ready := plainInput()
	ready.Mapped, ready.Closed = 50, 1
	want := impl.Plan{Kind: impl.PlanFin, Off: 50, Paths: []int64{1}}
	wantThisPlan(t, "the end, the edge below it", ready, want)
	for what, change := range map[string]func(in *impl.SchedInput){
		"not closed":            func(in *impl.SchedInput) { in.Closed = 0 },
		"mapped already":        func(in *impl.SchedInput) { in.FinMapped = 1 },
		"data left":             func(in *impl.SchedInput) { in.Mapped = 49 },
		"no room for a mapping": func(in *impl.SchedInput) { in.MaxMaps = 3 },
		"no path":               func(in *impl.SchedInput) { in.Paths[0].Room, in.Paths[1].Alive = 0, 0 },
	} {
		in := copyInput(ready)
		change(&in)
		wantThisPlan(t, what, in, impl.Plan{Turn: 1})
	}
	ready.MaxMaps = 4
	wantThisPlan(t, "the last mapping that fits", ready, want)
	ready.Mapped, ready.Written, ready.Edge = impl.MaxOffset, impl.MaxOffset, impl.MaxOffset
	want.Off = impl.MaxOffset
	wantThisPlan(t, "at MaxOffset", ready, want)
	ready.Mapped, ready.Written, ready.Edge, ready.Maps = 0, 0, 0, nil
	want.Off = 0
	wantThisPlan(t, "of an empty stream", ready, want)
}

// The turn moves with round-robin alone, picks are used with the scripted policy alone, and neither when there is no plan.
func TestPlanTurnAndPicks(t *testing.T) {
	for policy := int64(1); policy <= 4; policy++ {
		for turn := range int64(3) {
			for _, picks := range [][]int64{nil, {0}, {1, 0}, {2}, {7, 1}, {-1}, {math.MinInt64, 2}} {
				for kind := range int64(4) {
					wantTurnAndPicks(t, policy, turn, picks, kind)
				}
			}
		}
	}
}

func wantTurnAndPicks(t *testing.T, policy, turn int64, picks []int64, kind int64) {
	t.Helper()
	in := plainInput()
	in.Policy, in.Turn, in.Picks, in.Paths = policy, turn, picks, live(3)
	switch kind {
	case impl.PlanNone:
		in.Edge = 6
	case impl.PlanAgain:
		in.Maps[0].Queued, in.Maps[0].Carriers = 1, 128
	case impl.PlanFin:
		in.Mapped, in.Closed = 50, 1
	}
	what := fmt.Sprintf("policy %d, turn %d, picks %v, kind %d", policy, turn, picks, kind)
	got := wantPlan(t, what, in)
	wantUsed, wantTurn := int64(0), turn
	if kind != impl.PlanNone && policy == impl.PolicyScript && len(picks) > 0 {
		wantUsed = 1
	}
	if kind != impl.PlanNone && policy == impl.PolicyRound {
		wantTurn = (turn + 1) % 3
	}
	if got.Kind != kind || got.Used != wantUsed || got.Turn != wantTurn {
		t.Errorf("%s: %v", what, got)
	}
	if kind != impl.PlanNone && policy == impl.PolicyScript {
		chosen := int64(0)
		if len(picks) > 0 && picks[0] >= 0 && picks[0] < 3 {
			chosen = picks[0]
		}
		if !sameValue(got.Paths, []int64{chosen}) {
			t.Errorf("%s: %v", what, got)
		}
	}
}

// bend is one way to make an input wrong.
type bend struct {
	what   string
	change func(in *impl.SchedInput)
}

func policyBends() []bend {
	var bends []bend
	for _, x := range append([]int64{0, 5}, wildNumbers...) {
		bends = append(bends, bend{fmt.Sprintf("Policy %d", x), func(in *impl.SchedInput) { in.Policy = x }})
	}
	return bends
}

func pathBends() []bend {
	var bends []bend
	for what, paths := range wrongPaths() {
		bends = append(bends, bend{what, func(in *impl.SchedInput) { in.Paths = paths }})
	}
	return bends
}

func rangeBends() []bend {
	bends := []bend{
		{"Turn 8", func(in *impl.SchedInput) { in.Turn = 8 }},
		{"MaxMaps 0", func(in *impl.SchedInput) { in.MaxMaps = 0 }},
		{"MaxMaps 257", func(in *impl.SchedInput) { in.MaxMaps = 257 }},
		{"Payload 0", func(in *impl.SchedInput) { in.Payload = 0 }},
		{"Payload 33", func(in *impl.SchedInput) { in.Payload = 33 }},
		{"1001 picks", func(in *impl.SchedInput) { in.Picks = make([]int64, 1001) }},
		{"Mapped above Written", func(in *impl.SchedInput) { in.Mapped = in.Written + 1 }},
		{"Closed 2", func(in *impl.SchedInput) { in.Closed = 2 }},
		{"FinMapped 2", func(in *impl.SchedInput) { in.FinMapped = 2 }},
	}
	for _, x := range wildNumbers {
		bends = append(bends,
			bend{fmt.Sprintf("Turn %d", x), func(in *impl.SchedInput) { in.Turn = x }},
			bend{fmt.Sprintf("MaxMaps %d", x), func(in *impl.SchedInput) { in.MaxMaps = x }},
			bend{fmt.Sprintf("Payload %d", x), func(in *impl.SchedInput) { in.Payload = x }},
			bend{fmt.Sprintf("Closed %d", x), func(in *impl.SchedInput) { in.Closed = x }},
			bend{fmt.Sprintf("FinMapped %d", x), func(in *impl.SchedInput) { in.FinMapped = x }})
	}
	for _, x := range []uint64{impl.MaxOffset + 1, 1 << 63, topOffset} {
		bends = append(bends,
			bend{fmt.Sprintf("Mapped and Written %d", x), func(in *impl.SchedInput) { in.Mapped, in.Written = x, x }},
			bend{fmt.Sprintf("Mapped %d", x), func(in *impl.SchedInput) { in.Mapped = x }},
			bend{fmt.Sprintf("Written %d", x), func(in *impl.SchedInput) { in.Written = x }},
			bend{fmt.Sprintf("Edge %d", x), func(in *impl.SchedInput) { in.Edge = x }})
	}
	return bends
}

func formBends() []bend {
	bends := []bend{{"more mappings than MaxMaps", func(in *impl.SchedInput) { in.MaxMaps, in.Maps = 2, chain(3) }}}
	for what, maps := range wrongMaps() {
		bends = append(bends, bend{what, func(in *impl.SchedInput) { in.Maps = maps }})
	}
	return bends
}

func wantPlanCode(t *testing.T, what string, in impl.SchedInput, want int64) {
	t.Helper()
	got, code := impl.PlanSend(in)
	wantCode(t, what, code, want)
	if code != impl.OK && !sameValue(got, impl.Plan{}) {
		t.Errorf("%s: refused, and yet %v", what, got)
	}
}

// Each error alone, and each with those that come behind it.
func TestPlanRefused(t *testing.T) {
	classes := []struct {
		code  int64
		bends []bend
	}{
		{impl.ErrConfig, policyBends()},
		{impl.ErrPath, pathBends()},
		{impl.ErrRange, rangeBends()},
		{impl.ErrForm, formBends()},
	}
	for i, class := range classes {
		for _, b := range class.bends {
			in := plainInput()
			b.change(&in)
			wantPlanCode(t, b.what, in, class.code)
			for _, later := range classes[i+1:] {
				for _, l := range later.bends {
					both := copyInput(plainInput())
					l.change(&both)
					b.change(&both)
					wantPlanCode(t, b.what+" and "+l.what, both, class.code)
				}
			}
		}
	}
}

func TestPlanBounds(t *testing.T) {
	in := plainInput()
	in.Picks = make([]int64, impl.MaxPicks)
	wantThisPlan(t, "MaxPicks picks", in, impl.Plan{Kind: impl.PlanData, Off: 6, Len: 10, Paths: []int64{1}})
	in.Policy = impl.PolicyScript
	wantThisPlan(t, "MaxPicks picks of a script", in, impl.Plan{Kind: impl.PlanData, Off: 6, Len: 10, Paths: []int64{0}, Turn: 1, Used: 1})
	in = plainInput()
	in.Paths, in.Turn = live(8), 7
	wantThisPlan(t, "MaxPaths paths", in, impl.Plan{Kind: impl.PlanData, Off: 6, Len: 10, Paths: []int64{7}})
	in.Policy = impl.PolicyAll
	wantThisPlan(t, "all of them", in, impl.Plan{Kind: impl.PlanData, Off: 6, Len: 10, Paths: []int64{0, 1, 2, 3, 4, 5, 6, 7}, Turn: 7})
	in = plainInput()
	in.Paths, in.Turn, in.Maps, in.MaxMaps, in.Payload = live(1), 0, nil, 1, 1
	wantThisPlan(t, "one path, one mapping, one byte", in, impl.Plan{Kind: impl.PlanData, Off: 6, Len: 1, Paths: []int64{0}})
	for _, maps := range edgeMaps() {
		in := plainInput()
		in.Maps, in.MaxMaps = maps, impl.TopMaps
		wantPlan(t, "a mapping list at the edge", in)
		in.MaxMaps = max(1, int64(len(maps)))
		wantPlan(t, "as many mappings as MaxMaps", in)
	}
}

// An answer of Pick reaches into nothing else, and Pick writes nothing.
func TestPickMemory(t *testing.T) {
	paths := live(8)
	before := append([]impl.PathView(nil), paths...)
	for policy := int64(1); policy <= 4; policy++ {
		a, _, _ := impl.Pick(policy, 2, 3, paths, 1)
		b, _, _ := impl.Pick(policy, 2, 3, paths, 1)
		wantApart(t, "Pick", a, b, paths)
		for i := range a {
			a[i] = 99
		}
		wantPick(t, policy, 2, 3, paths, 1)
	}
	if !sameValue(paths, before) {
		t.Errorf("Pick wrote into %v", before)
	}
}
