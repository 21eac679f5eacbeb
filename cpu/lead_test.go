package cpu

import (
	"testing"

	"pianola/api"
	"pianola/bus"
)

// P16.4: PC, Next and Slot behind each branch, taken and not, wherever it is, and what it links.
func TestBranches(t *testing.T) {
	const minus = 0xfffffff0
	for _, c := range []struct {
		i     api.Inst
		s, t  uint32
		taken bool
		links int
	}{
		{sti(api.BEQ, 1, 2, 0x10), 5, 5, true, 0}, {sti(api.BEQ, 1, 2, 0x10), 5, 6, false, 0}, {sti(api.BNE, 1, 2, 0xfff0), 5, 6, true, 0}, {sti(api.BNE, 1, 2, 0xfff0), 5, 5, false, 0},
		{sti(api.BLTZ, 1, 0, 0x7fff), minus, 0, true, 0}, {sti(api.BLTZ, 1, 0, 0x7fff), 0, 0, false, 0}, {sti(api.BGEZ, 1, 0, 0x8000), 0, 0, true, 0}, {sti(api.BGEZ, 1, 0, 0x8000), minus, 0, false, 0},
		{sti(api.BLEZ, 1, 0, 1), 0, 0, true, 0}, {sti(api.BLEZ, 1, 0, 1), 1, 0, false, 0}, {sti(api.BGTZ, 1, 0, 0), 1, 0, true, 0}, {sti(api.BGTZ, 1, 0, 0), 0, 0, false, 0},
		{sti(api.BLTZAL, 1, 0, 9), minus, 0, true, 31}, {sti(api.BLTZAL, 1, 0, 9), 0, 0, false, 31}, {sti(api.BGEZAL, 1, 0, 9), 0, 0, true, 31}, {sti(api.BGEZAL, 1, 0, 9), minus, 0, false, 31},
		{sti(api.BLTZAL, 31, 0, 9), minus, 0, true, 31}, {sti(api.BGEZAL, 31, 0, 9), minus, 0, false, 31}, {sti(api.BLTZAL, 31, 0, 9), 1, 0, false, 31}, {sti(api.BGEZAL, 31, 0, 9), 1, 0, true, 31},
		{api.Inst{Kind: api.J, Imm: 0x108}, 0, 0, true, 0}, {api.Inst{Kind: api.J, Imm: 0x3ffffff}, 0, 0, true, 0}, {api.Inst{Kind: api.JAL, Imm: 0x108}, 0, 0, true, 31}, {api.Inst{Kind: api.JAL}, 0, 0, true, 31},
		{std(api.JR, 1, 0, 0), 0x80000804, 0, true, 0}, {std(api.JR, 1, 0, 0), 3, 0, true, 0}, {std(api.JR, 31, 0, 0), 0x1234, 0, true, 0}, {std(api.JALR, 1, 0, 5), 0x80000804, 0, true, 5}, {std(api.JALR, 31, 0, 31), 0x80000804, 0, true, 31}, {std(api.JALR, 1, 0, 1), 0xffffffff, 0, true, 1}, {std(api.JALR, 1, 0, 0), 8, 0, true, 0},
	} {
		for _, pc := range []uint32{0x80000400, 0, 0x0ffffff8, 0x0ffffffc, 0x7ffffffc, 0xfffffff4, 0xfffffff8, 0xfffffffc, 0x8ffffffc, 0x12345678} {
			x := newBench(t, func(s *api.State, b *bus.Bus) {
				crowded(s)
				s.PC, s.Next = pc, pc+4
				s.R[c.i.S], s.R[c.i.T] = c.s, c.t
				s.R[0] = 0
			})
			want := x.s
			if got := x.exec(c.i); got != -1 {
				t.Fatalf("Exec(%v): %d", c.i, got)
			}
			want.PC, want.Slot, want.Next, want.Time, want.C0[9] = pc+4, true, pc+8, 78, 0x9999999a
			if c.taken {
				want.Next = target(c.i, pc, c.s)
			}
			if c.links > 0 {
				want.R[c.links] = pc + 8
			}
			same(t, "behind "+name(c.i), x.s, want)
		}
	}
}

// target tells where a branch that is taken leads.
func target(i api.Inst, pc, s uint32) uint32 {
	switch i.Kind {
	case api.JR, api.JALR:
		return s
	case api.J, api.JAL:
		return (pc+4)&0xf0000000 + i.Imm<<2
	}
	return pc + 4 + uint32(int32(int16(i.Imm)))*4
}

// P16.4: behind each Kind that is no branch PC is Next, and Next 4 more than that, in no slot; in a slot too, wherever that leads.
func TestPlaceBehind(t *testing.T) {
	for _, kind := range kinds() {
		for _, next := range []uint32{0x404, 0x80000a00, 0xfffffffc, 0xfffffff8, 0, 3} {
			for _, slot := range []bool{false, true} {
				x := newBench(t, func(s *api.State, b *bus.Bus) {
					reach(s, b)
					s.Next, s.Slot = next, slot
					s.R[3], s.R[4] = 0x80c, 0x80c
				})
				i := api.Inst{Kind: kind}
				for _, field := range fields(kind) {
					switch field {
					case 's':
						i.S = 3
					case 't':
						i.T = 4
					}
				}
				code := x.exec(i)
				if code >= 0 || isBranch(kind) || kind == api.ERET {
					continue
				}
				if x.s.PC != next || x.s.Next != next+4 || x.s.Slot {
					t.Errorf("behind kind %d: %#x, %#x, %v", kind, x.s.PC, x.s.Next, x.s.Slot)
				}
			}
		}
	}
}

// P16.4: what is behind a branch is done ahead of where it leads, taken or not, and an exception there tells of the branch.
func TestSlot(t *testing.T) {
	for _, taken := range []bool{false, true} {
		x := newBench(t, func(s *api.State, b *bus.Bus) {
			program(t, b, 0x400, sti(api.BNE, 1, 0, 3), count(2), count(3))
			program(t, b, 0x410, count(4))
			if taken {
				s.R[1] = 1
			}
		})
		x.steps(-1)
		if !x.s.Slot || x.s.PC != reset+4 {
			t.Fatalf("in the slot: %v", x.s)
		}
		x.steps(-1)
		if x.s.Slot || x.s.R[2] != 1 {
			t.Fatalf("behind the slot: %v", x.s)
		}
		x.steps(-1)
		if (x.s.R[4] == 1) != taken || (x.s.R[3] == 0) != taken || x.s.Time != 3 {
			t.Errorf("taken %v: %v", taken, x.s)
		}
	}
	for behind, code := range map[api.Inst]int{sti(api.BEQ, 0, 0, 3): api.RI, std(api.ERET, 0, 0, 0): api.RI, std(api.WAIT, 0, 0, 0): api.RI, sti(api.LW, 0, 1, 2): api.AdEL, std(api.TEQ, 0, 0, 0): api.Tr, sti(api.SW, 0, 1, 4): api.TLBS} {
		for _, branch := range []api.Inst{sti(api.BEQ, 0, 0, 9), sti(api.BNE, 0, 0, 9), sti(api.BGEZAL, 0, 0, 9)} {
			x := newBench(t, func(s *api.State, b *bus.Bus) { program(t, b, 0x400, branch, behind) })
			x.steps(-1, code)
			if x.s.C0[14] != reset || x.s.C0[13] != inSlot|uint32(code)*4 || x.s.Slot || x.s.Time != 2 {
				t.Errorf("%v behind %v: EPC %#x, Cause %#x", behind, branch, x.s.C0[14], x.s.C0[13])
			}
		}
	}
}

// P16.3, P16.4: Time and Count go on by one with each outcome, also past 2^32, and the timer's line goes up when Count comes to Compare.
func TestTime(t *testing.T) {
	for _, i := range []api.Inst{count(1), std(api.SYSCALL, 0, 0, 0), sti(api.BEQ, 0, 0, 1), std(api.ERET, 0, 0, 0), std(api.WAIT, 0, 0, 0), {Kind: -1}, sti(api.LW, 0, 1, 2), sti(api.SC, 0, 1, 0), std(api.TEQ, 1, 2, 0), std(api.COP1, 0, 0, 0)} {
		for _, from := range []uint32{0, 7, 0x7fffffff, 0xfffffffe, 0xffffffff} {
			for by := range uint32(4) {
				x := newBench(t, func(s *api.State, b *bus.Bus) {
					crowded(s)
					s.C0[9], s.C0[11] = from, from-1+by
					s.Time = 1<<40 - 1
				})
				x.exec(i)
				if x.s.Time != 1<<40 || x.s.C0[9] != from+1 || x.s.C0[13]&clock != 0 != (by == 2) {
					t.Errorf("behind %v: Time %d, Count %#x, Cause %#x", i, x.s.Time, x.s.C0[9], x.s.C0[13])
				}
			}
		}
	}
}

// The chapter's run and examples.
func TestExamples(t *testing.T) {
	x := newBench(t, nil)
	if got := x.exec(sti(api.ADDIU, 0, 1, 5)); got != -1 || x.s.R[1] != 5 {
		t.Errorf("ADDIU r1, r0, 5: %d, %d", got, x.s.R[1])
	}
	x.sets(func(s *api.State) { s.Slot = true })
	if got := x.exec(sti(api.BEQ, 0, 0, 5)); got != api.RI {
		t.Errorf("a branch in a slot: %d", got)
	}
	if got := x.exec(sti(api.LW, 0, 1, 2)); got != api.AdEL || x.s.C0[8] != 2 {
		t.Errorf("LW at 2: %d", got)
	}
}
