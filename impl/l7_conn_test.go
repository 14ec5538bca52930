package impl

import "testing"

// The writer hears acknowledgements that no reader sent: no line of a script can bring them yet.
func TestAcknowledgementsAboveMapped(t *testing.T) {
	w := newWorld(Config{Paths: 1, Policy: PolicyRound, Window: 4, Payload: 4, SendCap: 20, RecvCap: 6, MaxMaps: 8, Rto: 5, MaxRto: 5, DeadAfter: 2, ProbeEvery: 2, Isn: 9})
	orders := w.orders()
	for _, step := range []struct {
		what   string
		line   string
		offset uint64
		window int64
		stat   string
	}{
		{"one above Mapped", "write abcdefgh", 7, 100, "8 0 6 6 2 1 0 0 0 0"},
		{"Mapped", "stat", 6, 0, "8 6 6 6 0 1 0 0 0 0"},
		{"one above Mapped, behind a close whose end is not mapped", "close", 7, 2, "8 6 6 6 0 2 0 0 0 0"},
		{"Mapped, with room for the rest", "stat", 6, 2, "8 6 8 8 2 2 0 0 0 0"},
		{"two above Mapped, the end mapped", "stat", 10, 0, "8 6 8 8 2 3 0 0 0 0"},
		{"Mapped, the end mapped", "stat", 8, 0, "8 8 8 8 1 3 0 0 0 0"},
		{"one above Mapped, the end mapped", "stat", 9, 0, "8 9 9 8 0 3 0 0 0 0"},
	} {
		w.runLine(orders, step.line)
		data, _ := EncodeFrame(Frame{Kind: FrameAck, Seq: w.cfg.Isn, Offset: step.offset, Window: step.window})
		w.arrive(0, Back, data)
		if got := w.runLine(orders, "stat").Data; got != step.stat {
			t.Errorf("%s: %q, want %q", step.what, got, step.stat)
		}
	}
}
