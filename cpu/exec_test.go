package cpu

import (
	"math"
	"math/rand"
	"slices"
	"testing"

	"pianola/api"
	"pianola/bus"
)

// entered is a State behind an exception in the place of its instruction: nothing of that is done, but its time.
func entered(s api.State, code int, refill bool) api.State {
	inside := s.C0[12]&exl != 0
	s.C0[13] = s.C0[13]&^0x7c | uint32(code)*4
	if !inside {
		s.C0[14], s.C0[13] = s.PC, s.C0[13]&^inSlot
		if s.Slot {
			s.C0[14], s.C0[13] = s.PC-4, s.C0[13]|inSlot
		}
	}
	s.PC = vector
	if refill && !inside {
		s.PC = 0x80000000
	}
	s.Next, s.Slot = s.PC+4, false
	s.C0[12] |= exl
	s.C0[9]++
	s.Time++
	return s
}

// modes are Status and Slot of each sort.
func modes() []func(s *api.State) {
	var out []func(s *api.State)
	for _, status := range []uint32{0, um, exl, um | exl} {
		for _, slot := range []bool{false, true} {
			out = append(out, func(s *api.State) {
				s.C0[12] = s.C0[12]&^0x13 | status
				s.Slot = slot
				if slot {
					s.Next = 0x80000a00
				}
			})
		}
	}
	return out
}

func isUser(s *api.State) bool { return s.C0[12]&(um|exl) == um }

// barredBy is the exception of a kind by itself, as the chapter's list has it.
func barredBy(kind int, s *api.State) int {
	slotted := []int{api.JR, api.JALR, api.BLTZ, api.BGEZ, api.BLTZAL, api.BGEZAL, api.J, api.JAL, api.BEQ, api.BNE, api.BLEZ, api.BGTZ, api.ERET, api.WAIT}
	guarded := []int{api.MFC0, api.MTC0, api.TLBR, api.TLBWI, api.TLBWR, api.TLBP, api.ERET, api.WAIT}
	switch {
	case s.Slot && slices.Contains(slotted, kind):
		return api.RI
	case isUser(s) && slices.Contains(guarded, kind), kind == api.COP1:
		return api.CpU
	case kind == api.SYSCALL:
		return api.Sys
	case kind == api.BREAK:
		return api.Bp
	}
	return -1
}

// reach has addresses of registers lie in memory: each holds a place in the first pages, whatever Imm is not too great.
func reach(s *api.State, b *bus.Bus) {
	crowded(s)
	for n := 1; n < 32; n++ {
		s.R[n] = 0x800 + uint32(n)*4
	}
	for page := range uint32(4) {
		s.Table[page] = api.Entry{Hi: page * 1024, Lo: page*1024 | api.V | api.D | api.G}
	}
	for at := uint32(0); at < 4096; at += 4 {
		b.Ram().Store(at, 4, 0x81c2e304+at*0x10003)
	}
	s.Linked = 0x80c
	s.PC, s.Next = 0x400, 0x404
}

// P16.3, P16.4: every Kind by itself, in a slot and not, as a user and not, within an exception and not.
func TestEveryKind(t *testing.T) {
	for _, kind := range kinds() {
		for _, mode := range modes() {
			x := newBench(t, func(s *api.State, b *bus.Bus) {
				reach(s, b)
				s.R[3], s.R[4] = 0x80c, 0x810
				mode(s)
			})
			i := api.Inst{Kind: kind}
			for _, field := range fields(kind) {
				switch field {
				case 's':
					i.S = 3
				case 't':
					i.T = 4
				case 'd':
					i.D = 5
				case 'h':
					i.Shift = 6
				default:
					i.Imm = 8
				}
			}
			was := x.s
			want := barredBy(kind, &was)
			if kind == api.TLT || kind == api.TNE { // 0x80c and 0x810
				want = api.Tr
			}
			if got := x.exec(i); got != want {
				t.Errorf("kind %d, Status %#x, slot %v: %d, want %d", kind, was.C0[12], was.Slot, got, want)
			}
			if want >= 0 {
				same(t, "behind an exception", x.s, entered(was, want, false))
			}
			x.ends("a kind")
		}
	}
}

// P16.3: each Kind with random fields in random States, in each mode.
func TestKindsAnywhere(t *testing.T) {
	random := rand.New(rand.NewSource(16))
	x := newBench(t, reach)
	for _, kind := range kinds() {
		for range 150 {
			for _, mode := range modes() {
				s := anyState(random, x.s)
				mode(&s)
				x.s, x.plain.s = s, s
				x.exec(anyInst(random, kind))
			}
		}
		x.ends("a kind")
	}
}

// anyState is one whose registers hold anything, mostly something near.
func anyState(random *rand.Rand, s api.State) api.State {
	for n := 1; n < 32; n++ {
		s.R[n] = anyWord(random)
	}
	s.Hi, s.Lo = random.Uint32(), random.Uint32()
	s.PC = []uint32{0x80000400, 0x7ffffffc, 0xfffffff8, 0xfffffffc, 0, 0x0ffffffc, random.Uint32()}[random.Intn(7)]
	s.Next = s.PC + 4
	s.Link = random.Intn(3) > 0
	s.Linked = uint32(0x800 + random.Intn(8)*4)
	s.C0[0] = []uint32{0, 5, 7, 0x80000000}[random.Intn(4)]
	s.C0[2] = random.Uint32() & 0xfffffc07
	s.C0[9], s.C0[11] = random.Uint32(), random.Uint32()
	if random.Intn(2) == 0 {
		s.C0[11] = s.C0[9] + uint32(random.Intn(4)) - 1
	}
	s.C0[10] = random.Uint32() & 0xfffffcff
	s.C0[12] = random.Uint32() & 0xff13
	s.C0[13] = random.Uint32() & 0x8000877c
	s.C0[14] = random.Uint32()
	s.Time = random.Int63() >> 24
	return s
}

func anyWord(random *rand.Rand) uint32 {
	switch random.Intn(8) {
	case 0:
		return random.Uint32()
	case 1:
		return random.Uint32() >> random.Intn(32)
	case 2:
		return []uint32{0, 1, 0x7fffffff, 0x80000000, 0xffffffff, 0x80000001, 0xfffffffe, 2}[random.Intn(8)]
	case 3:
		return 0x80000800 + uint32(random.Intn(64))
	case 4:
		return 0xa0000000 + uint32(random.Intn(4200))
	case 5:
		return 0xbf000000 + uint32(random.Intn(0x190))&^3
	}
	return 0x800 + uint32(random.Intn(64))
}

// P16.3: an instruction that is not Right is RI, and nothing of it is done: each field beyond its bits, and each that the kind has not; in each mode.
func TestNotRight(t *testing.T) {
	for _, mode := range modes() {
		x := newBench(t, func(s *api.State, b *bus.Bus) {
			reach(s, b)
			mode(s)
		})
		was := x.s
		for _, kind := range kinds() {
			for _, i := range wrong(kind) {
				if got := x.exec(i); got != api.RI {
					t.Fatalf("Exec(%v): %d", i, got)
				}
				same(t, "behind RI", x.s, entered(was, api.RI, false))
				x.s, x.plain.s = was, was
			}
		}
		x.ends("instructions that are not right")
	}
}

// wrong are instructions of a kind that have one field that is not right.
func wrong(kind int) []api.Inst {
	has := func(field rune) bool { return slices.Contains([]rune(fields(kind)), field) }
	least := func(field rune) int {
		if has(field) {
			return 32
		}
		return 1
	}
	imm := uint32(1)
	if has('i') {
		imm = 1 << 16
	} else if has('j') {
		imm = 1 << 26
	}
	out := []api.Inst{{Kind: kind, Imm: imm}, {Kind: kind, Imm: 1 << 31}, {Kind: kind, Imm: math.MaxUint32}}
	for _, by := range []int{0, 1, 32, 1 << 20} {
		out = append(out, api.Inst{Kind: kind, S: least('s') + by}, api.Inst{Kind: kind, T: least('t') + by}, api.Inst{Kind: kind, D: least('d') + by}, api.Inst{Kind: kind, Shift: least('h') + by})
	}
	for _, n := range []int{-1, -32, math.MinInt, math.MaxInt} {
		out = append(out, api.Inst{Kind: kind, S: n}, api.Inst{Kind: kind, T: n}, api.Inst{Kind: kind, D: n}, api.Inst{Kind: kind, Shift: n})
	}
	return out
}

// P16.3: Reserved, and Kinds that are none, are RI in each mode, whatever their fields.
func TestNoKind(t *testing.T) {
	for _, mode := range modes() {
		x := newBench(t, func(s *api.State, b *bus.Bus) {
			crowded(s)
			mode(s)
		})
		was := x.s
		for _, kind := range []int{api.Reserved, -1, api.Kinds, api.Kinds + 1, 99, 255, 256, math.MinInt, math.MaxInt, 1<<32 + api.ADD, -api.ADD} {
			for _, i := range []api.Inst{{}, {S: 3}, {S: -1, T: 99, D: math.MinInt, Shift: math.MaxInt, Imm: math.MaxUint32}, {T: 5, Imm: 9}} {
				i.Kind = kind
				if got := x.exec(i); got != api.RI {
					t.Fatalf("Exec(%v): %d", i, got)
				}
				same(t, "behind RI", x.s, entered(was, api.RI, false))
				x.s, x.plain.s = was, was
			}
		}
		x.ends("no kind")
	}
}

// P16.3: the first one of several: RI of a slot ahead of CpU of a user; RI of one that is not right ahead of all.
func TestFirstBar(t *testing.T) {
	for _, c := range []struct {
		i      api.Inst
		status uint32
		slot   bool
		code   int
	}{
		{api.Inst{Kind: api.ERET}, um, true, api.RI}, {api.Inst{Kind: api.WAIT}, um, true, api.RI}, {api.Inst{Kind: api.ERET}, um, false, api.CpU}, {api.Inst{Kind: api.WAIT}, um, false, api.CpU}, {api.Inst{Kind: api.WAIT}, um | exl, true, api.RI}, {api.Inst{Kind: api.WAIT}, um | exl, false, -1},
		{api.Inst{Kind: api.MFC0, S: 1}, um, false, api.RI}, {api.Inst{Kind: api.MFC0, T: 1}, um, true, api.CpU}, {api.Inst{Kind: api.TLBWR}, um, true, api.CpU}, {api.Inst{Kind: api.COP1, D: 1}, um, false, api.RI}, {api.Inst{Kind: api.COP1}, um, true, api.CpU}, {api.Inst{Kind: api.SYSCALL, Imm: 5}, 0, false, api.RI}, {api.Inst{Kind: api.BREAK, S: 1}, 0, true, api.RI}, {api.Inst{Kind: api.SYSCALL}, um, true, api.Sys}, {api.Inst{Kind: api.BREAK}, um, true, api.Bp}, {api.Inst{Kind: api.TEQ, S: 1, T: 1, D: 1}, 0, false, api.RI}, {api.Inst{Kind: api.TEQ, S: 1, T: 1}, um, true, api.Tr}, {api.Inst{Kind: api.J, Imm: 1 << 26}, 0, false, api.RI}, {api.Inst{Kind: api.J}, um, true, api.RI}, {api.Inst{Kind: api.CACHE}, um, true, -1}, {api.Inst{Kind: api.PREF}, um, true, -1}, {api.Inst{Kind: api.SYNC}, um, true, -1},
	} {
		x := newBench(t, func(s *api.State, b *bus.Bus) {
			crowded(s)
			s.C0[12], s.Slot = c.status, c.slot
		})
		if got := x.exec(c.i); got != c.code {
			t.Errorf("Exec(%v), Status %#x, slot %v: %d, want %d", c.i, c.status, c.slot, got, c.code)
		}
		x.ends("a bar")
	}
}

// P16.3: what overflows is not done; just below and above it is.
func TestOverflow(t *testing.T) {
	for _, c := range []struct {
		kind int
		s, t uint32 // ADDI: t is Imm
		over bool
	}{
		{api.ADD, 0x7ffffffe, 1, false}, {api.ADD, 0x7fffffff, 1, true}, {api.ADD, 0x7fffffff, 0, false}, {api.ADD, 0x80000000, 0xffffffff, true}, {api.ADD, 0x80000001, 0xffffffff, false}, {api.ADD, 0x80000000, 0x80000000, true}, {api.ADD, 0x7fffffff, 0x7fffffff, true}, {api.ADD, 0x7fffffff, 0x80000000, false}, {api.ADD, 0xffffffff, 1, false}, {api.ADD, 0x40000000, 0x40000000, true}, {api.ADD, 0x40000000, 0x3fffffff, false}, {api.ADD, 0xc0000000, 0xc0000000, false}, {api.ADD, 0xc0000000, 0xbfffffff, true},
		{api.SUB, 0x7fffffff, 0xffffffff, true}, {api.SUB, 0x7ffffffe, 0xffffffff, false}, {api.SUB, 0x80000000, 1, true}, {api.SUB, 0x80000001, 1, false}, {api.SUB, 0, 0x80000000, true}, {api.SUB, 0xffffffff, 0x80000000, false}, {api.SUB, 0x80000000, 0x80000000, false}, {api.SUB, 0, 1, false}, {api.SUB, 0x80000000, 0x7fffffff, true},
		{api.ADDI, 0x7ffffffe, 1, false}, {api.ADDI, 0x7fffffff, 1, true}, {api.ADDI, 0x7fff8000, 0x7fff, false}, {api.ADDI, 0x7fff8001, 0x7fff, true}, {api.ADDI, 0x80000000, 0xffff, true}, {api.ADDI, 0x80000001, 0xffff, false}, {api.ADDI, 0x80008000, 0x8000, false}, {api.ADDI, 0x80007fff, 0x8000, true}, {api.ADDI, 0xffffffff, 1, false},
		{api.ADDU, 0x7fffffff, 1, false}, {api.SUBU, 0x80000000, 1, false}, {api.ADDIU, 0x7fffffff, 1, false}, {api.ADDIU, 0x80000000, 0xffff, false},
	} {
		x := newBench(t, func(s *api.State, b *bus.Bus) {
			crowded(s)
			s.R[1], s.R[2] = c.s, c.t
		})
		was, sum := x.s, c.s+c.t
		i := std(c.kind, 1, 2, 3)
		switch c.kind {
		case api.ADDI, api.ADDIU:
			i = sti(c.kind, 1, 3, c.t)
			sum = c.s + uint32(int16(c.t))
		case api.SUB, api.SUBU:
			sum = c.s - c.t
		}
		code := x.exec(i)
		if c.over {
			same(t, "behind Ov", x.s, entered(was, api.Ov, false))
		}
		if c.over != (code == api.Ov) || !c.over && (code != -1 || x.s.R[3] != sum) {
			t.Errorf("%d: %#x, %#x: %d, %#x", c.kind, c.s, c.t, code, x.s.R[3])
		}
	}
}

// P16.3: each trap, taken and not.
func TestTraps(t *testing.T) {
	words := []uint32{0, 1, 2, 0x7fffffff, 0x80000000, 0x80000001, 0xfffffffe, 0xffffffff}
	for _, a := range words {
		for _, b := range words {
			for kind, is := range map[int]bool{api.TGE: int32(a) >= int32(b), api.TLT: int32(a) < int32(b), api.TEQ: a == b, api.TNE: a != b} {
				x := newBench(t, func(s *api.State, _ *bus.Bus) {
					crowded(s)
					s.R[1], s.R[2] = a, b
				})
				want := x.s
				code := -1
				if is {
					code, want = api.Tr, entered(want, api.Tr, false)
				} else {
					want.PC, want.Next, want.Time, want.C0[9] = reset+4, reset+8, 78, 0x9999999a
				}
				if got := x.exec(std(kind, 1, 2, 0)); got != code {
					t.Errorf("trap %d of %#x, %#x: %d", kind, a, b, got)
				}
				same(t, "behind a trap", x.s, want)
			}
		}
	}
}

// P16.3: register 0 is 0 always: as what is read, as the place of an answer, of each Kind; and whatever a State has there.
func TestRegister0(t *testing.T) {
	random := rand.New(rand.NewSource(5))
	x := newBench(t, reach)
	for _, kind := range kinds() {
		for bits := range 8 {
			for range 40 {
				i := anyInst(random, kind)
				if bits&1 != 0 {
					i.S = 0
				}
				if bits&2 != 0 {
					i.T = 0
				}
				if bits&4 != 0 {
					i.D = 0
				}
				s := anyState(random, x.s)
				s.C0[12] = 0
				x.s, x.plain.s = s, s
				x.exec(i)
				if x.s.R[0] != 0 {
					t.Fatalf("behind %v R0 is %#x", i, x.s.R[0])
				}
				// What the State that is handed in has in it is neither read nor kept.
				y := bench{t: t, s: s, b: x.b, plain: x.plain}
				if y.s.R[0] = 5; i.Kind < api.LB { // the bus is left alone
					Exec(&y.s, y.b, i)
					same(t, "with R0 of 5, behind "+name(i), y.s, x.s)
				}
			}
		}
	}
	x.ends("register 0")
}

// P16.3: what goes to register 0 is done all the same: the byte is taken, the link is there.
func TestIntoRegister0(t *testing.T) {
	x := newBench(t, func(s *api.State, b *bus.Bus) {
		s.R[1] = 0xbf0000c0
		s.R[2] = 0x80000800
		b.Type('k')
	})
	x.exec(sti(api.LW, 1, 0, 0))
	if v := wordAt(t, x.b, uartAt); v != 256 || x.s.R[0] != 0 {
		t.Errorf("LW to 0: %#x is left", v)
	}
	wordAt(t, x.plain.b, uartAt)
	x.exec(sti(api.LL, 2, 0, 0))
	if !x.s.Link || x.s.Linked != 0x800 || x.s.R[0] != 0 {
		t.Errorf("LL to 0: %v", x.s)
	}
	x.exec(sti(api.SC, 2, 0, 0))
	if x.s.Link || x.s.R[0] != 0 {
		t.Errorf("SC of 0: %v", x.s)
	}
	x.exec(std(api.JALR, 2, 0, 0))
	if x.s.R[0] != 0 || x.s.Next != 0x80000800 {
		t.Errorf("JALR with D 0: %v", x.s)
	}
	x.ends("to register 0")
}

// P16.3: one register as S, T and D together.
func TestOneRegister(t *testing.T) {
	random := rand.New(rand.NewSource(6))
	x := newBench(t, reach)
	for _, kind := range kinds() {
		for n := range 32 {
			for range 8 {
				i := anyInst(random, kind)
				for _, field := range fields(kind) {
					switch field {
					case 's':
						i.S = n
					case 't':
						i.T = n
					case 'd':
						i.D = n
					}
				}
				s := anyState(random, x.s)
				s.C0[12] = 0
				x.s, x.plain.s = s, s
				x.exec(i)
			}
		}
	}
	x.ends("one register")
}

// P16.3: MOVZ and MOVN, MFHI and MFLO, MULT to MTLO, by numbers that are known.
func TestNumbers(t *testing.T) {
	for _, c := range []struct {
		i      api.Inst
		s, t   uint32
		d      uint32
		hi, lo uint32
	}{
		{std(api.MOVZ, 1, 2, 3), 7, 0, 7, 11, 22}, {std(api.MOVZ, 1, 2, 3), 7, 1, 33, 11, 22}, {std(api.MOVZ, 1, 2, 3), 0, 0, 0, 11, 22}, {std(api.MOVZ, 1, 2, 3), 7, 0x80000000, 33, 11, 22},
		{std(api.MOVN, 1, 2, 3), 7, 0, 33, 11, 22}, {std(api.MOVN, 1, 2, 3), 7, 1, 7, 11, 22}, {std(api.MOVN, 1, 2, 3), 0, 5, 0, 11, 22}, {std(api.MOVN, 1, 2, 3), 7, 0x80000000, 7, 11, 22},
		{std(api.MFHI, 0, 0, 3), 1, 2, 11, 11, 22}, {std(api.MFLO, 0, 0, 3), 1, 2, 22, 11, 22}, {std(api.MTHI, 1, 0, 0), 5, 6, 33, 5, 22}, {std(api.MTLO, 1, 0, 0), 5, 6, 33, 11, 5},
		{std(api.MULT, 1, 2, 0), 0xffffffff, 2, 33, 0xffffffff, 0xfffffffe}, {std(api.MULTU, 1, 2, 0), 0xffffffff, 2, 33, 1, 0xfffffffe}, {std(api.DIV, 1, 2, 0), 0xfffffff9, 2, 33, 0xffffffff, 0xfffffffd}, {std(api.DIVU, 1, 2, 0), 0xfffffff9, 2, 33, 1, 0x7ffffffc}, {std(api.DIV, 1, 2, 0), 5, 0, 33, 5, 0xffffffff}, {std(api.DIVU, 1, 2, 0), 5, 0, 33, 5, 0xffffffff}, {std(api.DIV, 1, 2, 0), 0x80000000, 0xffffffff, 33, 0, 0x80000000},
		{std(api.MUL, 1, 2, 3), 0xffffffff, 3, 0xfffffffd, 11, 22}, {std(api.CLZ, 1, 0, 3), 1, 0, 31, 11, 22}, {std(api.CLO, 1, 0, 3), 0xffff0000, 0, 16, 11, 22}, {std(api.NOR, 1, 2, 3), 0xf0, 0x0f, 0xffffff00, 11, 22}, {std(api.SLT, 1, 2, 3), 0xffffffff, 0, 1, 11, 22}, {std(api.SLTU, 1, 2, 3), 0xffffffff, 0, 0, 11, 22}, {std(api.SUBU, 1, 2, 3), 1, 2, 0xffffffff, 11, 22}, {std(api.SLLV, 1, 2, 3), 33, 1, 2, 11, 22}, {std(api.SRAV, 1, 2, 3), 4, 0x80000000, 0xf8000000, 11, 22}, {api.Inst{Kind: api.SRA, T: 2, D: 3, Shift: 31}, 0, 0x80000000, 0xffffffff, 11, 22},
		{sti(api.ADDIU, 1, 3, 0xffff), 5, 0, 4, 11, 22}, {sti(api.SLTIU, 1, 3, 0xffff), 5, 0, 1, 11, 22}, {sti(api.ANDI, 1, 3, 0xf0f0), 0xffffffff, 0, 0xf0f0, 11, 22}, {sti(api.LUI, 0, 3, 0x8001), 0, 0, 0x80010000, 11, 22},
		{std(api.SYNC, 0, 0, 0), 1, 2, 33, 11, 22}, {std(api.CACHE, 0, 0, 0), 1, 2, 33, 11, 22}, {std(api.PREF, 0, 0, 0), 1, 2, 33, 11, 22},
	} {
		x := newBench(t, func(s *api.State, b *bus.Bus) {
			crowded(s)
			s.R[1], s.R[2], s.R[3], s.Hi, s.Lo = c.s, c.t, 33, 11, 22
		})
		want := x.s
		want.R[3], want.Hi, want.Lo = c.d, c.hi, c.lo
		want.PC, want.Next, want.Time, want.C0[9] = reset+4, reset+8, 78, 0x9999999a
		if got := x.exec(c.i); got != -1 {
			t.Errorf("Exec(%v): %d", c.i, got)
		}
		same(t, "behind "+name(c.i), x.s, want)
		x.ends("numbers")
	}
}
