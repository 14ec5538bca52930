package tests

import (
	"math/rand"
	"reflect"
	"testing"

	"loop.example/s03010/impl"
)

// wantThisView holds what Inspect tells against a view that was worked out by hand.
func wantThisView(t *testing.T, what, script string, want impl.View) {
	t.Helper()
	v, code := impl.Inspect(script)
	if code != impl.OK || !sameValue(v, want) {
		t.Errorf("%s: code %d\n%+v, want\n%+v", what, code, v, want)
	}
}

func TestInspectFresh(t *testing.T) {
	wantThisView(t, "one path", "config 1 1 1 1 1 1 1 1 1 1 1 0", impl.View{
		Writer: impl.WriterView{Edge: 1, Subs: []impl.SubView{{Rto: 1}}},
		Reader: impl.ReaderView{Waits: []uint32{0}},
		Bags:   []impl.Bag{{}, {Dir: 1}},
	})
	wantThisView(t, "three paths, the numbers wrap", "\nconfig 3 4 16 32 4096 77 256 50 400 8 50 4294967294\n\n", impl.View{
		Writer: impl.WriterView{Edge: 77, Subs: []impl.SubView{{Base: 4294967294, Next: 4294967294, Rto: 50}, {Base: 4294967295, Next: 4294967295, Rto: 50}, {Rto: 50}}},
		Reader: impl.ReaderView{Waits: []uint32{4294967294, 4294967295, 0}},
		Bags:   []impl.Bag{{}, {Dir: 1}, {Path: 1}, {Path: 1, Dir: 1}, {Path: 2}, {Path: 2, Dir: 1}},
	})
}

// A path that was cut and has died, what another took over, and a pick that waits.
func TestInspectDeadPath(t *testing.T) {
	lines := []string{"pick 1", "write abcdefghij", "cut 0", "deliver 1 f 0", "wtick", "dup 1 b 0", "deliver 1 b 0", "wtick", "wtick", "pick 7", "read 3"}
	wantThisView(t, "a dead path", scriptOf("config 2 4 2 4 20 12 3 1 4 2 5 4294967295", lines), impl.View{
		Writer: impl.WriterView{
			Written: 10, Acked: 4, Edge: 12, Mapped: 10,
			Maps: []impl.Mapping{{Off: 4, Len: 4, Carriers: 3}, {Off: 8, Len: 2, Carriers: 3}},
			Subs: []impl.SubView{
				{Base: 4294967295, Next: 1, Tags: []int64{4, 8}, Rto: 2, Count: 2, Probe: 5, Dead: 1},
				{Base: 1, Next: 3, Tags: []int64{4, 8}, Timer: 1, Rto: 1},
			},
		},
		Reader: impl.ReaderView{Buffer: impl.ReorderView{Read: 3, Next: 4, Held: []impl.Span{{Lo: 3, Hi: 4}}}, Waits: []uint32{4294967295, 1}},
		Bags: []impl.Bag{
			{Cut: 1},
			{Dir: 1, Cut: 1},
			{Path: 1, Datagrams: [][]byte{
				layDown(impl.Frame{Kind: impl.FrameData, Path: 1, Payload: []byte("abcd")}),
				layDown(impl.Frame{Kind: impl.FrameData, Path: 1, Seq: 1, Offset: 4, Payload: []byte("efgh")}),
				layDown(impl.Frame{Kind: impl.FrameData, Path: 1, Seq: 2, Offset: 8, Payload: []byte("ij")}),
			}},
			{Path: 1, Dir: 1, Datagrams: [][]byte{layDown(impl.Frame{Kind: impl.FrameAck, Path: 1, Seq: 1, Offset: 4, Window: 8})}},
		},
		Picks: []int64{7},
	})
	lines = append(lines, "wtick", "wtick")
	v, _ := impl.Inspect(scriptOf("config 2 4 2 4 20 12 3 1 4 2 5 4294967295", lines))
	want := []impl.SubView{{Base: 4294967295, Next: 1, Tags: []int64{4, 8}, Rto: 2, Count: 2, Probe: 3, Dead: 1}, {Base: 1, Next: 3, Tags: []int64{4, 8}, Timer: 1, Rto: 2, Count: 1}}
	if !sameValue(v.Writer.Subs, want) {
		t.Errorf("two ticks later: %+v, want %+v", v.Writer.Subs, want)
	}
}

// A queued mapping, the turn, and a hole in the buffer.
func TestInspectQueued(t *testing.T) {
	lines := []string{"write abcdef", "deliver 2 f 0", "drop 0 f 0", "drop 1 f 0", "drop 2 b 0", "wtick"}
	wantThisView(t, "all paths have died", scriptOf("config 3 1 1 2 20 12 8 1 1 1 9 5", lines), impl.View{
		Writer: impl.WriterView{
			Written: 6, Edge: 12, Mapped: 6,
			Maps: []impl.Mapping{{Off: 0, Len: 2, Carriers: 1, Queued: 1}, {Off: 2, Len: 2, Carriers: 2, Queued: 1}, {Off: 4, Len: 2, Carriers: 4, Queued: 1}},
			Subs: []impl.SubView{
				{Base: 5, Next: 6, Tags: []int64{0}, Rto: 1, Count: 1, Probe: 9, Dead: 1},
				{Base: 6, Next: 7, Tags: []int64{2}, Rto: 1, Count: 1, Probe: 9, Dead: 1},
				{Base: 7, Next: 8, Tags: []int64{4}, Rto: 1, Count: 1, Probe: 9, Dead: 1},
			},
		},
		Reader: impl.ReaderView{Buffer: impl.ReorderView{Held: []impl.Span{{Lo: 4, Hi: 6}}}, Waits: []uint32{5, 6, 8}},
		Bags:   []impl.Bag{{}, {Dir: 1}, {Path: 1}, {Path: 1, Dir: 1}, {Path: 2}, {Path: 2, Dir: 1}},
	})
	v, _ := impl.Inspect("config 3 1 1 2 20 12 8 1 1 1 9 5\nwrite abc")
	if v.Writer.Turn != 2 {
		t.Errorf("behind two frames the turn is %d", v.Writer.Turn)
	}
}

// The end mapped and told, then an abort that changes nothing of the writer but what it sends.
func TestInspectEnds(t *testing.T) {
	reset := layDown(impl.Frame{Kind: impl.FrameReset})
	wantThisView(t, "told and aborted", scriptOf("config 1 1 4 4 20 20 8 5 5 2 2 9", []string{"write ab", "close", "deliver 0 f 0", "deliver 0 f 0", "read 9", "read 9", "abort", "tick"}), impl.View{
		Writer: impl.WriterView{
			Written: 2, Edge: 20, Mapped: 2, Closed: 1, FinMapped: 1, Aborted: 1,
			Maps: []impl.Mapping{{Len: 2, Carriers: 1}, {Off: 2, Fin: 1, Carriers: 1}},
			Subs: []impl.SubView{{Base: 9, Next: 11, Tags: []int64{0, 2}, Timer: 5, Rto: 5}},
		},
		Reader: impl.ReaderView{Buffer: impl.ReorderView{Read: 2, Next: 2, HasFin: 1, Fin: 2}, Waits: []uint32{11}, Told: 1},
		Bags: []impl.Bag{{Datagrams: [][]byte{reset, reset}}, {Dir: 1, Datagrams: [][]byte{
			layDown(impl.Frame{Kind: impl.FrameAck, Seq: 10, Offset: 2, Window: 18}),
			layDown(impl.Frame{Kind: impl.FrameAck, Seq: 11, Offset: 3, Window: 18}),
			layDown(impl.Frame{Kind: impl.FrameAck, Seq: 11, Offset: 3, Window: 20}),
		}}},
	})
	wantThisView(t, "both aborted, with drops", scriptOf("config 1 1 4 4 20 20 8 5 5 2 2 9", []string{"inject 0 f -", "inject 0 b 00", forgeReset(0), "inject 0 f -", "abort", "inject 0 b 00", forgeAck(0, 9, 0, 65535)}), impl.View{
		Writer: impl.WriterView{Edge: 20, Aborted: 1, Drops: 3, Subs: []impl.SubView{{Base: 9, Next: 9, Rto: 5}}},
		Reader: impl.ReaderView{Waits: []uint32{9}, Aborted: 1, Drops: 2},
		Bags:   []impl.Bag{{Datagrams: [][]byte{reset}}, {Dir: 1}},
	})
}

// Every other byte goes to a cut path and is acknowledged all the same: the buffer holds more spans than a span set may have, and all are told.
func TestInspectManySpans(t *testing.T) {
	cfg, _ := impl.ParseConfig("config 2 1 16 1 4096 4096 256 50 400 8 50 4294967290")
	s := newScriptMaker(rand.New(rand.NewSource(162)), cfg)
	s.add("cut 1")
	for range 70 {
		s.add("fill 32 q")
		s.add(forgeAck(1, s.model.subs[1].view().Next, s.model.mapped, 65535))
		s.add("fair 0")
	}
	wantHostile(t, s)
	v, _ := impl.Inspect(s.script())
	if n := len(v.Reader.Buffer.Held); n <= impl.MaxSpans {
		t.Errorf("only %d spans", n)
	}
}

// spoil writes over all that the lists of a value hold.
func spoil(v reflect.Value) {
	switch v.Kind() {
	case reflect.Struct:
		for i := range v.NumField() {
			spoil(v.Field(i))
		}
	case reflect.Slice:
		for i := range v.Len() {
			spoil(v.Index(i))
			if !v.Index(i).IsZero() {
				v.Index(i).SetZero()
			}
		}
	}
}

// What Inspect tells owns its memory, and two calls of it tell the same.
func TestInspectMemory(t *testing.T) {
	r := rand.New(rand.NewSource(161))
	for range 40 {
		s := newScriptMaker(r, someConfig(r))
		for range 80 {
			if r.Intn(3) == 0 {
				s.add(s.hostile())
			} else {
				s.add(s.chance())
			}
		}
		first, _ := impl.Inspect(s.script())
		second, _ := impl.Inspect(s.script())
		if !sameValue(first, second) {
			t.Fatalf("two calls differ of\n%s", s.script())
		}
		wantApart(t, "a view", first, second)
		spoil(reflect.ValueOf(first))
		third, _ := impl.Inspect(s.script())
		if !sameValue(second, third) || !sameValue(third, s.model.view()) {
			t.Fatalf("what was written into a view came back in another of\n%s", s.script())
		}
	}
}
