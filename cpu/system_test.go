package cpu

import (
	"math/rand"
	"testing"

	"pianola/api"
	"pianola/bus"
)

// P16.3: MFC0 and MTC0 of each register, by each bit.
func TestMoves(t *testing.T) {
	random := rand.New(rand.NewSource(7))
	x := newBench(t, crowdedAlone)
	was := x.s
	for n := range 32 {
		for bit := range 34 {
			v := uint32(0xffffffff)
			if bit < 32 {
				v = 1 << bit
			} else if bit == 33 {
				v = random.Uint32()
			}
			for _, before := range []uint32{0, 0xffffffff} {
				s := was
				s.R[4] = v
				if n < 16 && n != 12 && n != 13 {
					s.C0[n] = before
				}
				if n == 11 && before != 0 {
					s.C0[13] |= clock
				}
				x.s, x.plain.s = s, s
				x.exec(std(api.MTC0, 0, 4, n))
				x.exec(std(api.MFC0, 0, 5, n))
			}
		}
	}
	x.ends("moves")
}

// P16.3, P16.4: what is read is as it was ahead of the step's time; what is written counts from the step's own time on.
func TestMovesAndTime(t *testing.T) {
	x := newBench(t, func(s *api.State, b *bus.Bus) { s.C0[9] = 13 })
	x.exec(std(api.MFC0, 0, 1, api.Count))
	x.exec(std(api.MFC0, 0, 2, api.Random))
	x.sets(func(s *api.State) { s.R[3] = 500 })
	x.exec(std(api.MTC0, 0, 3, api.Count))
	if x.s.R[1] != 13 || x.s.R[2] != 6 || x.s.C0[9] != 501 || x.s.Time != 3 {
		t.Errorf("R1 %d, R2 %d, Count %d", x.s.R[1], x.s.R[2], x.s.C0[9])
	}
	for compare, up := range map[uint32]bool{501: false, 502: true, 503: false} {
		y := newBench(t, func(s *api.State, b *bus.Bus) {
			s.C0[9], s.C0[13] = 501, clock
			s.R[3] = compare
		})
		y.exec(std(api.MTC0, 0, 3, api.Compare))
		if got := y.s.C0[13] == clock; got != up || y.s.C0[11] != compare {
			t.Errorf("Compare %d: Cause %#x", compare, y.s.C0[13])
		}
	}
	// A mode that is written counts for the next instruction.
	z := newBench(t, func(s *api.State, b *bus.Bus) {
		program(t, b, 0x400, std(api.MTC0, 0, 1, api.Status), count(2))
		s.R[1] = um
	})
	z.steps(-1, api.AdEL)
	if z.s.C0[14] != reset+4 || z.s.C0[8] != reset+4 || z.s.R[2] != 0 {
		t.Errorf("behind a change of mode: %v", z.s)
	}
}

// P16.3: an interrupt that a program asks for itself is taken ahead of the next instruction.
func TestAsked(t *testing.T) {
	for _, v := range []uint32{0x100, 0x200, 0x300, 0x400, 0x8000} {
		x := newBench(t, func(s *api.State, b *bus.Bus) {
			program(t, b, 0x400, std(api.MTC0, 0, 1, api.Cause), count(2))
			s.R[1], s.C0[12] = v, 0xff01
		})
		x.step()
		want := 0
		if v >= 0x400 {
			want = -1
		}
		x.steps(want)
		if want == 0 && (x.s.C0[14] != reset+4 || x.s.R[2] != 0 || x.s.C0[13] != v) {
			t.Errorf("asked %#x: %v", v, x.s)
		}
	}
}

// P16.3: TLBR, TLBWI, TLBWR and TLBP at each place.
func TestTable(t *testing.T) {
	for n := range uint32(8) {
		for _, index := range []uint32{n, n + 8, 0x80000000 + n} {
			x := newBench(t, func(s *api.State, b *bus.Bus) {
				crowded(s)
				s.C0[0] = index
				s.C0[9] = 0x7777fff0 + n
			})
			was := x.s
			x.exec(std(api.TLBR, 0, 0, 0))
			if x.s.C0[10] != was.Table[n].Hi || x.s.C0[2] != was.Table[n].Lo {
				t.Errorf("TLBR of %#x: %#x, %#x", index, x.s.C0[10], x.s.C0[2])
			}
			x.exec(std(api.TLBP, 0, 0, 0))
			if x.s.C0[0] != n {
				t.Errorf("TLBP: %#x, want %d", x.s.C0[0], n)
			}
			x.sets(func(s *api.State) { s.C0[0], s.C0[10], s.C0[2] = index, 0xabcdec55, 0x13579c07 })
			was = x.s
			x.exec(std(api.TLBWI, 0, 0, 0))
			want := was.Table
			want[n] = api.Entry{Hi: 0xabcdec55, Lo: 0x13579c07}
			if x.s.Table != want {
				t.Errorf("TLBWI of %#x: %x", index, x.s.Table)
			}
			x.sets(func(s *api.State) { s.C0[2] = 0x2468ac03 })
			want[(n+3)%8] = api.Entry{Hi: 0xabcdec55, Lo: 0x2468ac03} // Count is three on
			x.exec(std(api.TLBWR, 0, 0, 0))
			if x.s.Table != want {
				t.Errorf("TLBWR at Count %#x: %x", x.s.C0[9]-1, x.s.Table)
			}
			x.sets(func(s *api.State) { s.C0[10] = 0x55555400 })
			x.exec(std(api.TLBP, 0, 0, 0))
			if x.s.C0[0] != 0x80000000 {
				t.Errorf("TLBP of none: %#x", x.s.C0[0])
			}
			x.ends("the table")
		}
	}
}

// P16.3: a page that is put is found by the next instruction.
func TestRefilled(t *testing.T) {
	x := newBench(t, func(s *api.State, b *bus.Bus) {
		program(t, b, 0x400, sti(api.LW, 1, 2, 0))
		program(t, b, 0, std(api.MTC0, 0, 3, api.EntryLo), std(api.TLBWR, 0, 0, 0), std(api.ERET, 0, 0, 0))
		b.Ram().Store(0x804, 4, 0x12345678)
		s.R[1], s.R[3] = 0x5004, 0x800|api.V
	})
	x.steps(api.TLBL)
	if x.s.PC != 0x80000000 || x.s.C0[10] != 0x5000 || x.s.C0[8] != 0x5004 {
		t.Fatalf("a refill: %v", x.s)
	}
	x.steps(-1, -1, -1)
	if x.s.PC != reset || x.s.C0[12] != 0 {
		t.Fatalf("back: %v", x.s)
	}
	x.steps(-1)
	if x.s.R[2] != 0x12345678 || x.s.Time != 5 {
		t.Errorf("again: %v", x.s)
	}
	x.ends("a refill")
}

// P16.3, P16.4: ERET of each State that it may come back from: PC is EPC, whatever that is, and nothing is gone on beyond it.
func TestReturn(t *testing.T) {
	for _, epc := range []uint32{0, 4, 0x80000400, 0xfffffffc, 0xfffffffd, 2, 0x7fffffff} {
		for _, status := range []uint32{0, exl, um | exl, 0xff03, 0xff13, ie} {
			for _, link := range []bool{false, true} {
				x := newBench(t, func(s *api.State, b *bus.Bus) {
					crowded(s)
					s.C0[14], s.C0[12], s.Link = epc, status, link
				})
				want := x.s
				if got := x.exec(std(api.ERET, 0, 0, 0)); got != -1 {
					t.Errorf("ERET: %d", got)
				}
				want.PC, want.Next, want.Link, want.Time = epc, epc+4, false, 78
				want.C0[9], want.C0[12] = 0x9999999a, status&^exl
				same(t, "behind ERET", x.s, want)
				x.ends("ERET")
			}
		}
	}
}

// P16.3: from an exception in a slot ERET leads to the branch, and both are done again.
func TestReturnToBranch(t *testing.T) {
	x := newBench(t, func(s *api.State, b *bus.Bus) {
		program(t, b, 0x400, sti(api.BEQ, 0, 0, 7), std(api.SYSCALL, 0, 0, 0))
		program(t, b, 0x180, std(api.ERET, 0, 0, 0))
	})
	x.steps(-1, api.Sys)
	if x.s.C0[14] != reset || x.s.C0[13] != inSlot|api.Sys*4 {
		t.Errorf("EPC %#x, Cause %#x", x.s.C0[14], x.s.C0[13])
	}
	x.steps(-1, -1)
	if x.s.PC != reset+4 || x.s.Next != reset+0x20 || !x.s.Slot {
		t.Errorf("again: %v", x.s)
	}
	x.ends("a branch, again")
}

// P16.3: WAIT waits behind itself.
func TestWaits(t *testing.T) {
	x := newBench(t, crowdedAlone)
	want := x.s
	if got := x.exec(std(api.WAIT, 0, 0, 0)); got != -1 {
		t.Errorf("WAIT: %d", got)
	}
	want.Waits, want.PC, want.Next, want.Time, want.C0[9] = true, reset+4, reset+8, 78, 0x9999999a
	same(t, "behind WAIT", x.s, want)
	// Exec does not ask whether it waits.
	x.exec(count(1))
	want.R[1], want.PC, want.Next, want.Time, want.C0[9] = want.R[1]+1, reset+8, reset+12, 79, 0x9999999b
	same(t, "behind an instruction, waiting", x.s, want)
}
