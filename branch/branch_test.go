package branch

import (
	"math"
	"math/big"
	"math/rand"
	"testing"

	"pianola/api"
	"pianola/decode"
)

const (
	top  = 0x80000000
	all  = 0xffffffff
	most = 0x7fffffff
)

// bounds are the words and places at which something turns over.
func bounds() []uint32 {
	return []uint32{0, 1, 2, 3, 4, 8, 0x7fff, 0x8000, 0xffff, 0x10000, 0x1fffc, 0x20000, 0x0ffffff8, 0x0ffffffc, 0x0fffffff, 0x10000000, 0x10000001, most - 4, most - 3, most - 1, most, top, top + 1, top + 4, 0x8ffffff8, 0x8ffffffc, 0x90000000, 0xeffffffc, 0xf0000000, 0xfffdfffc, 0xfffe0000, 0xffff8000, all - 7, all - 4, all - 3, all - 2, all - 1, all}
}

// samples are the bounds, and some words from anywhere.
func samples() []uint32 {
	out := append(bounds(), 0x80000400, 0x12345678, 0xdeadbeef, 0x55555555, 0xaaaaaaaa)
	random := rand.New(rand.NewSource(5))
	for range 40 {
		out = append(out, random.Uint32()>>random.Intn(32))
	}
	return out
}

// always, toPlace, toAddress, toRegister are the kinds of branches as the chapter tells them apart.
func always() []int {
	return []int{api.J, api.JAL, api.JR, api.JALR}
}

func toPlace() []int {
	return []int{api.BEQ, api.BNE, api.BLTZ, api.BLTZAL, api.BGEZ, api.BGEZAL, api.BLEZ, api.BGTZ}
}

func toAddress() []int {
	return []int{api.J, api.JAL}
}

func toRegister() []int {
	return []int{api.JR, api.JALR}
}

func branches() []int {
	return append(always(), toPlace()...)
}

// others are all kinds but the given ones, and numbers that no kind has, some of them like a kind's in fewer bits.
func others(kinds ...int) []int {
	out := []int{-1, -2, -api.JR, -api.J, -api.BEQ, -api.BGTZ, api.Kinds, api.Kinds + 1, 127, 128, 256 + api.J, 256 + api.BEQ, 999, 1<<16 + api.JALR, 1<<32 + api.J, 1<<32 + api.JAL, 1<<32 + api.JR, 1<<32 + api.BEQ, -1<<32 + api.BLTZAL, math.MaxInt32, math.MinInt32, math.MaxInt, math.MinInt, math.MinInt + api.JALR, math.MinInt + api.BGEZ}
	given := map[int]int{}
	for _, kind := range kinds {
		given[kind]++
	}
	for kind := range api.Kinds {
		if given[kind] == 0 {
			out = append(out, kind)
		}
	}
	return out
}

// fields are ways to fill an instruction's fields: none, some, all, and such as are not right.
func fields(kind int) []api.Inst {
	return []api.Inst{
		{Kind: kind},
		{Kind: kind, S: 4, T: 5, D: 6, Shift: 7, Imm: 8},
		{Kind: kind, S: 31, T: 31, D: 31, Shift: 31, Imm: 0x8000},
		{Kind: kind, S: 1, T: 1, D: 1, Shift: 1, Imm: 0x3ffffff},
		{Kind: kind, S: -1, T: 99, D: -99, Shift: -1, Imm: all},
		{Kind: kind, S: math.MinInt, T: math.MaxInt, D: math.MinInt, Shift: math.MinInt, Imm: top},
	}
}

// signed is v as a number with a sign, of any size, so that no bound of 32 or 64 bits plays a part.
func signed(v uint32, bits uint) *big.Int {
	n := new(big.Int).SetUint64(uint64(v) % (1 << bits))
	if n.Bit(int(bits-1)) == 1 {
		n.Sub(n, new(big.Int).Lsh(big.NewInt(1), bits))
	}
	return n
}

// wantTaken is what Taken must tell of a branch.
func wantTaken(kind int, s, t uint32) bool {
	sign := signed(s, 32).Sign()
	switch kind {
	case api.BEQ:
		return signed(s, 32).Cmp(signed(t, 32)) == 0
	case api.BNE:
		return signed(s, 32).Cmp(signed(t, 32)) != 0
	case api.BLTZ, api.BLTZAL:
		return sign == -1
	case api.BGEZ, api.BGEZAL:
		return sign != -1
	case api.BLEZ:
		return sign != 1
	case api.BGTZ:
		return sign == 1
	}
	return true
}

// wantPlace is the place that a branch with that Imm leads to.
func wantPlace(pc, imm uint32) uint32 {
	n := new(big.Int).Mul(signed(imm, 16), big.NewInt(4))
	n.Add(n, big.NewInt(int64(pc)+4))
	return uint32(n.And(n, big.NewInt(all)).Uint64())
}

// wantAddress is the address that a jump with an Imm of 26 bits leads to: parts of 2^28 bytes are counted, the last one leads to the first.
func wantAddress(pc, imm uint32) uint32 {
	part := (uint64(pc) + 4) / (1 << 28) % 16
	return uint32(part*(1<<28) + uint64(imm)*4)
}

func takenIs(t *testing.T, i api.Inst, s, v uint32, want bool) {
	t.Helper()
	if got := Taken(i, s, v); got != want {
		t.Errorf("Taken(%+v, %#x, %#x): %v, want %v", i, s, v, got, want)
	}
}

func targetIs(t *testing.T, i api.Inst, pc, s, want uint32) {
	t.Helper()
	if got := Target(i, pc, s); got != want {
		t.Errorf("Target(%+v, %#x, %#x): %#x, want %#x", i, pc, s, got, want)
	}
}

func linksAre(t *testing.T, i api.Inst, want int, is bool) {
	t.Helper()
	if got, ok := Links(i); got != want || ok != is {
		t.Errorf("Links(%+v): %d, %v, want %d, %v", i, got, ok, want, is)
	}
}

// P5.1: Taken by rows: s below 0, 0, above 0, with t that would tell otherwise; s and t alike and unlike.
func TestTakenRows(t *testing.T) {
	for _, c := range []struct {
		kind int
		s, t uint32
		want bool
	}{
		{api.BEQ, 0, 0, true}, {api.BEQ, 5, 5, true}, {api.BEQ, all, all, true}, {api.BEQ, top, top, true}, {api.BEQ, 5, 6, false}, {api.BEQ, 6, 5, false}, {api.BEQ, 0, top, false}, {api.BEQ, top, 0, false}, {api.BEQ, all, most, false}, {api.BEQ, 0x10005, 5, false}, {api.BEQ, 1, all, false},
		{api.BNE, 0, 0, false}, {api.BNE, 5, 5, false}, {api.BNE, all, all, false}, {api.BNE, top, top, false}, {api.BNE, 5, 6, true}, {api.BNE, 6, 5, true}, {api.BNE, 0, top, true}, {api.BNE, top, 0, true}, {api.BNE, all, most, true}, {api.BNE, 0x10005, 5, true}, {api.BNE, 1, all, true},
		{api.BLTZ, 0, 1, false}, {api.BLTZ, 1, 2, false}, {api.BLTZ, most, all, false}, {api.BLTZ, top, top, true}, {api.BLTZ, top + 1, 0, true}, {api.BLTZ, all, top, true},
		{api.BLTZAL, 0, 1, false}, {api.BLTZAL, 1, 2, false}, {api.BLTZAL, most, all, false}, {api.BLTZAL, top, top, true}, {api.BLTZAL, top + 1, 0, true}, {api.BLTZAL, all, top, true},
		{api.BGEZ, 0, 1, true}, {api.BGEZ, 1, 2, true}, {api.BGEZ, most, all, true}, {api.BGEZ, top, top, false}, {api.BGEZ, top + 1, 0, false}, {api.BGEZ, all, top, false},
		{api.BGEZAL, 0, 1, true}, {api.BGEZAL, 1, 2, true}, {api.BGEZAL, most, all, true}, {api.BGEZAL, top, top, false}, {api.BGEZAL, top + 1, 0, false}, {api.BGEZAL, all, top, false},
		{api.BLEZ, 0, all, true}, {api.BLEZ, 1, 1, false}, {api.BLEZ, 1, 2, false}, {api.BLEZ, most, most, false}, {api.BLEZ, top, top, true}, {api.BLEZ, all, top, true},
		{api.BGTZ, 0, all, false}, {api.BGTZ, 1, 1, true}, {api.BGTZ, 1, 2, true}, {api.BGTZ, most, most, true}, {api.BGTZ, top, top, false}, {api.BGTZ, all, top, false},
		{api.J, 0, 1, true}, {api.JAL, 1, 0, true}, {api.JR, 0, 0, true}, {api.JALR, all, top, true},
	} {
		takenIs(t, api.Inst{Kind: c.kind}, c.s, c.t, c.want)
	}
}

// P5.1: Taken of each branch, with each two of the samples, whatever its fields, right or not.
func TestTakenPairs(t *testing.T) {
	for _, kind := range branches() {
		for _, i := range fields(kind) {
			for _, s := range samples() {
				for _, v := range samples() {
					takenIs(t, i, s, v, wantTaken(kind, s, v))
				}
			}
		}
	}
}

// P5.1: where branches lead, by rows: Imm with and without its highest bit, places ahead of 0 and past the last.
func TestTargetRows(t *testing.T) {
	for _, c := range []struct{ pc, imm, want uint32 }{
		{8, 0xffff, 8}, {8, 0, 12}, {8, 1, 16}, {8, 0xfffe, 4}, {0, 0xffff, 0}, {0, 0xfffe, 0xfffffffc}, {4, 0xfffd, 0xfffffffc},
		{0x80000400, 0x7fff, 0x80020400}, {0x80000400, 0x8000, 0x7ffe0404}, {0, 0x7fff, 0x20000}, {0, 0x8000, 0xfffe0004}, {0x1fffc, 0x8000, 0}, {0x1fff8, 0x8000, 0xfffffffc},
		{0xfffffffc, 0, 0}, {0xfffffffc, 1, 4}, {0xfffffffc, 0xffff, 0xfffffffc}, {0xfffffff8, 0, 0xfffffffc}, {0xfffffff8, 1, 0}, {0xfffffffc, 0x7fff, 0x1fffc}, {0xfffe0000, 0x7fff, 0},
		{0x0ffffffc, 0, 0x10000000}, {0x0ffffffc, 0xfffe, 0x0ffffff8}, {0x7ffffffc, 0, top}, {top, 0xfffe, 0x7ffffffc},
		{all, 0, 3}, {1, 1, 9}, {most, 0xffff, most}, {2, 0x8000, 0xfffe0006},
	} {
		for _, kind := range toPlace() {
			for _, s := range []uint32{0, 9, all} {
				targetIs(t, api.Inst{Kind: kind, Imm: c.imm}, c.pc, s, c.want)
			}
		}
	}
}

// P5.1: each Imm of 16 bits leads each branch to its place; the bits of Imm above these change nothing.
func TestTargetEveryImm(t *testing.T) {
	for _, kind := range toPlace() {
		for imm := range uint32(0x10000) {
			for _, pc := range []uint32{0, 0x80000400, 0xfffffffc, imm * 4} {
				targetIs(t, api.Inst{Kind: kind, Imm: imm}, pc, 9, wantPlace(pc, imm))
				targetIs(t, api.Inst{Kind: kind, Imm: imm ^ 0xa5a50000}, pc, 9, wantPlace(pc, imm))
			}
		}
	}
}

// P5.1: each branch, at each of the samples, with an Imm of each of them, right or not, and each bound in S.
func TestTargetPairs(t *testing.T) {
	for _, kind := range toPlace() {
		for _, pc := range samples() {
			for _, imm := range samples() {
				for _, s := range bounds() {
					targetIs(t, api.Inst{Kind: kind, Imm: imm}, pc, s, wantPlace(pc, imm))
				}
			}
		}
	}
}

// P5.1: where J and JAL lead, by rows: the highest 4 bits are those of pc + 4, not of pc.
func TestJumpRows(t *testing.T) {
	for _, c := range []struct{ pc, imm, want uint32 }{
		{0, 0, 0}, {0, 1, 4}, {0x80000400, 0x100, 0x80000400}, {0x80000400, 0x3ffffff, 0x8ffffffc}, {0x80000400, 0x2000000, 0x88000000}, {8, 0x8000, 0x20000}, {8, 0xffff, 0x3fffc}, {8, 0x10000, 0x40000},
		{0x0ffffff8, 0, 0}, {0x0ffffffb, 0, 0}, {0x0ffffffc, 0, 0x10000000}, {0x0ffffffc, 0x3ffffff, 0x1ffffffc}, {0x0fffffff, 1, 0x10000004}, {0x10000000, 1, 0x10000004},
		{0x7ffffff8, 3, 0x7000000c}, {0x7ffffffc, 3, 0x8000000c}, {0x8ffffff8, 5, 0x80000014}, {0x8ffffffc, 5, 0x90000014}, {0xeffffffc, 0, 0xf0000000},
		{0xfffffff8, 1, 0xf0000004}, {0xfffffffb, 0, 0xf0000000}, {0xfffffffc, 1, 4}, {all, 0x3ffffff, 0x0ffffffc}, {0xfffffffc, 0x3ffffff, 0x0ffffffc},
	} {
		for _, kind := range toAddress() {
			for _, s := range []uint32{0, 9, all} {
				targetIs(t, api.Inst{Kind: kind, Imm: c.imm}, c.pc, s, c.want)
			}
		}
	}
}

// P5.1: J and JAL, at each of the samples, with each bit of Imm alone and an Imm of some of all 26 bits.
func TestJumpPairs(t *testing.T) {
	imms := []uint32{0, 0x3ffffff}
	for bit := range 26 {
		imms = append(imms, 1<<bit, 0x3ffffff^1<<bit)
	}
	for _, v := range samples() {
		imms = append(imms, v%(1<<26))
	}
	for _, kind := range toAddress() {
		for _, pc := range samples() {
			for _, imm := range imms {
				for _, s := range []uint32{0, 9, all} {
					targetIs(t, api.Inst{Kind: kind, Imm: imm}, pc, s, wantAddress(pc, imm))
				}
			}
		}
	}
}

// P5.1: J and JAL just ahead of, at and behind each bound of 2^28 bytes.
func TestJumpAtEveryBound(t *testing.T) {
	for part := range uint32(16) {
		for _, c := range []struct{ beside, part uint32 }{{all - 7, part - 1}, {all - 4, part - 1}, {all - 3, part}, {all, part}, {0, part}, {4, part}} {
			pc := part<<28 + c.beside
			for _, kind := range toAddress() {
				targetIs(t, api.Inst{Kind: kind, Imm: 0x123}, pc, 9, c.part<<28|0x48c)
			}
		}
	}
}

// P5.1: an Imm above 26 bits is taken as it stands, times 4 modulo 2^32, its bits beside those of pc + 4.
func TestJumpGreatImm(t *testing.T) {
	for _, c := range []struct{ pc, imm, want uint32 }{
		{0, 0x4000000, 0x10000000}, {0x80000400, 0x4000001, 0x90000004}, {0x80000400, 0x20000001, 0x80000004}, {0x10000000, 0x4000000, 0x10000000}, {8, 0x40000001, 4}, {8, top, 0}, {8, all, 0xfffffffc},
	} {
		for _, kind := range toAddress() {
			targetIs(t, api.Inst{Kind: kind, Imm: c.imm}, c.pc, 9, c.want)
		}
	}
}

// P5.1: JR and JALR lead to s, whatever it is, a multiple of 4 or not.
func TestTargetOfRegister(t *testing.T) {
	for _, kind := range toRegister() {
		for _, i := range fields(kind) {
			for _, pc := range samples() {
				for _, s := range samples() {
					targetIs(t, i, pc, s, s)
				}
			}
		}
	}
}

// P5.1: fields that a branch does not ask, registers among them, change nothing.
func TestTargetAsksNoMore(t *testing.T) {
	for _, kind := range append(toPlace(), toAddress()...) {
		for _, i := range fields(kind) {
			i.Imm = 0x8123
			want := wantPlace(0x8ffffffc, 0x8123)
			if kind == api.J || kind == api.JAL {
				want = 0x9002048c
			}
			targetIs(t, i, 0x8ffffffc, 77, want)
		}
	}
}

// P5.1: all others, kinds or not, are never taken, and lead to pc + 4.
func TestOthersLeadOn(t *testing.T) {
	for _, kind := range others(branches()...) {
		for _, i := range fields(kind) {
			for _, s := range bounds() {
				for _, v := range bounds() {
					takenIs(t, i, s, v, false)
					targetIs(t, i, v, s, uint32((uint64(v)+4)%(1<<32)))
				}
			}
		}
	}
}

// P5.1: what is a branch here is of class Branch, and the other way round.
func TestBranchesAreDecodes(t *testing.T) {
	if got := len(branches()); got != 12 {
		t.Fatalf("%d kinds of branches", got)
	}
	for _, kind := range branches() {
		if got := decode.Class(api.Inst{Kind: kind}); got != decode.Branch {
			t.Errorf("kind %d is of class %d", kind, got)
		}
	}
	for _, kind := range others(branches()...) {
		if got := decode.Class(api.Inst{Kind: kind}); got == decode.Branch {
			t.Errorf("kind %d is of class Branch", kind)
		}
	}
}

// P5.1: Links: 31 whatever the fields; D of JALR, each register, and one that is none told as it stands.
func TestLinks(t *testing.T) {
	for _, kind := range []int{api.JAL, api.BLTZAL, api.BGEZAL} {
		for _, i := range fields(kind) {
			linksAre(t, i, 31, true)
		}
	}
	registers := []int{32, 99, -1, -32, 1 << 32, 1<<32 + 31, math.MaxInt, math.MinInt}
	for r := range 32 {
		registers = append(registers, r)
	}
	for _, r := range registers {
		for _, i := range fields(api.JALR) {
			i.D = r
			linksAre(t, i, r, true)
		}
	}
}

// P5.1: no other kind links, whatever its D.
func TestOthersLinkNothing(t *testing.T) {
	for _, kind := range others(api.JAL, api.BLTZAL, api.BGEZAL, api.JALR) {
		for _, i := range fields(kind) {
			linksAre(t, i, 0, false)
		}
	}
}

// P5.1: words that decode reads lead where they say: fields come from where a program has them.
func TestWords(t *testing.T) {
	for _, c := range []struct {
		word         uint32
		s, t         uint32
		taken        bool
		target, into uint32
		links        bool
	}{
		{0x1022ffff, 7, 7, true, 0x80000400, 0, false},    // BEQ r1, r2, -1
		{0x14220003, 7, 7, false, 0x80000410, 0, false},   // BNE r1, r2, 3
		{0x04308000, all, 0, true, 0x7ffe0404, 31, true},  // BLTZAL r1, -32768
		{0x04310001, all, 0, false, 0x80000408, 31, true}, // BGEZAL r1, 1
		{0x0c000100, 0, 0, true, 0x80000400, 31, true},    // JAL 0x100
		{0x0bffffff, 0, 0, true, 0x8ffffffc, 0, false},    // J 0x3ffffff
		{0x00204809, 0x123, 0, true, 0x123, 9, true},      // JALR r9, r1
		{0x00200008, all, 0, true, all, 0, false},         // JR r1
		{0x00000000, 0, 0, false, 0x80000404, 0, false},   // SLL r0, r0, 0
		{0xffffffff, 0, 0, false, 0x80000404, 0, false},   // Reserved
	} {
		i := decode.Of(c.word)
		takenIs(t, i, c.s, c.t, c.taken)
		targetIs(t, i, 0x80000400, c.s, c.target)
		linksAre(t, i, int(c.into), c.links)
	}
}
