package alu

import (
	"math"
	"math/big"
	"math/rand"
	"strconv"
	"strings"
	"testing"

	"pianola/api"
	"pianola/decode"
)

const (
	top  = 0x80000000
	all  = 0xffffffff
	most = 0x7fffffff
)

// bounds are the words at which something turns over.
func bounds() []uint32 {
	return []uint32{0, 1, 2, 31, 32, 33, 0x7fff, 0x8000, 0x8001, 0xffff, 0x10000, 0x10001, 0x3fffffff, 0x40000000, most - 1, most, top, top + 1, 0xffff7fff, 0xffff8000, 0xffffffe0, all - 1, all}
}

// samples are the bounds, and some words from anywhere.
func samples() []uint32 {
	out := append(bounds(), 0x12345678, 0xdeadbeef, 0x55555555, 0xaaaaaaaa)
	random := rand.New(rand.NewSource(17))
	for range 40 {
		out = append(out, random.Uint32()>>random.Intn(32))
	}
	return out
}

// imms are those of 16 bits at which something turns over.
func imms() []uint32 {
	return []uint32{0, 1, 2, 0xff, 0x7ffe, 0x7fff, 0x8000, 0x8001, 0xff00, 0xfffe, 0xffff}
}

// numbers are the kinds that give a number, as the chapter lists them.
func numbers() []int {
	return []int{
		api.SLL, api.SRL, api.SRA, api.SLLV, api.SRLV, api.SRAV,
		api.ADD, api.ADDU, api.SUB, api.SUBU, api.AND, api.OR, api.XOR, api.NOR, api.SLT, api.SLTU,
		api.ADDI, api.ADDIU, api.SLTI, api.SLTIU, api.ANDI, api.ORI, api.XORI, api.LUI,
		api.MUL, api.CLZ, api.CLO,
	}
}

// others are all kinds but the given ones, and numbers that no kind has, some of them like a kind's in fewer bits.
func others(kinds ...int) []int {
	out := []int{-1, -2, -api.SLL, -api.ADD, -api.MULT, -api.CLO, api.Kinds, api.Kinds + 1, 127, 128, 256 + api.SLL, 256 + api.MULT, 999, 1<<16 + api.ADD, 1<<32 + api.SLL, 1<<32 + api.ADDI, 1<<32 + api.DIV, 1<<32 + api.TEQ, -1<<32 + api.LUI, math.MaxInt32, math.MinInt32, math.MaxInt, math.MinInt, math.MinInt + api.XOR, math.MinInt + api.MTHI}
	given := map[int]int{}
	for _, kind := range kinds {
		given[kind]++
	}
	for kind := range api.Kinds {
		if given[kind] == 0 {
			out = append(out, kind)
		}
	}
	return out
}

// fields are ways to fill an instruction's fields: none, some, all, and such as are not right.
func fields(kind int) []api.Inst {
	return []api.Inst{
		{Kind: kind},
		{Kind: kind, S: 4, T: 5, D: 6, Shift: 7, Imm: 8},
		{Kind: kind, S: 31, T: 31, D: 31, Shift: 31, Imm: 0xffff},
		{Kind: kind, S: -1, T: 99, D: -99, Shift: -1, Imm: all},
		{Kind: kind, S: math.MinInt, T: math.MaxInt, D: math.MinInt, Shift: math.MinInt, Imm: top},
	}
}

// number is v as a number of any size, so that no bound of 32 or 64 bits plays a part.
func number(v uint32, sign bool) *big.Int {
	n := new(big.Int).SetUint64(uint64(v))
	if sign && v >= top {
		n.Sub(n, new(big.Int).Lsh(big.NewInt(1), 32))
	}
	return n
}

// small is Imm as a number with a sign, of its 16 bits.
func small(imm uint32) *big.Int {
	n := int64(imm % 0x10000)
	if n >= 0x8000 {
		n -= 0x10000
	}
	return big.NewInt(n)
}

// lowest is n modulo 2^32.
func lowest(n *big.Int) uint32 {
	return uint32(new(big.Int).And(n, big.NewInt(all)).Uint64())
}

func fits(n *big.Int) bool {
	return n.Cmp(big.NewInt(math.MinInt32)) >= 0 && n.Cmp(big.NewInt(math.MaxInt32)) <= 0
}

// digits are v's 32 bits as text, the highest ahead.
func digits(v uint32) string {
	s := strconv.FormatUint(uint64(v), 2)
	return strings.Repeat("0", 32-len(s)) + s
}

func fromDigits(s string) uint32 {
	v, err := strconv.ParseUint(s, 2, 32)
	if err != nil {
		panic(err)
	}
	return uint32(v)
}

func one(b bool) uint32 {
	if b {
		return 1
	}
	return 0
}

// shifted moves v's digits by places, 0 to 31, to the left or the right, with what fills them up there.
func shifted(v uint32, places int, left, sign bool) uint32 {
	bits := digits(v)
	if left {
		return fromDigits(bits[places:] + strings.Repeat("0", places))
	}
	fill := "0"
	if sign {
		fill = bits[:1]
	}
	return fromDigits(strings.Repeat(fill, places) + bits[:32-places])
}

// bitwise lays the digits of a and b over one another; row has what comes of 0 0, 0 1, 1 0, 1 1.
func bitwise(a, b uint32, row string) uint32 {
	x, y := digits(a), digits(b)
	out := make([]byte, 32)
	for k := range out {
		out[k] = row[2*(x[k]-'0')+(y[k]-'0')]
	}
	return fromDigits(string(out))
}

// wantShift is what a shift must give.
func wantShift(i api.Inst, s, t uint32) uint32 {
	switch i.Kind {
	case api.SLL:
		return shifted(t, i.Shift, true, false)
	case api.SRL:
		return shifted(t, i.Shift, false, false)
	case api.SRA:
		return shifted(t, i.Shift, false, true)
	case api.SLLV:
		return shifted(t, int(s%32), true, false)
	case api.SRLV:
		return shifted(t, int(s%32), false, false)
	}
	return shifted(t, int(s%32), false, true)
}

// want is what Do must give, of a kind that gives a number, with a Shift of 0 to 31.
func want(i api.Inst, s, t uint32) uint32 {
	switch i.Kind {
	case api.ADD, api.ADDU:
		return lowest(new(big.Int).Add(number(s, false), number(t, false)))
	case api.SUB, api.SUBU:
		return lowest(new(big.Int).Sub(number(s, false), number(t, false)))
	case api.AND:
		return bitwise(s, t, "0001")
	case api.OR:
		return bitwise(s, t, "0111")
	case api.XOR:
		return bitwise(s, t, "0110")
	case api.NOR:
		return bitwise(s, t, "1000")
	case api.SLT:
		return one(number(s, true).Cmp(number(t, true)) < 0)
	case api.SLTU:
		return one(number(s, false).Cmp(number(t, false)) < 0)
	case api.ADDI, api.ADDIU:
		return lowest(new(big.Int).Add(number(s, true), small(i.Imm)))
	case api.SLTI:
		return one(number(s, true).Cmp(small(i.Imm)) < 0)
	case api.SLTIU:
		return one(number(s, false).Cmp(number(lowest(small(i.Imm)), false)) < 0)
	case api.ANDI:
		return bitwise(s, i.Imm, "0001")
	case api.ORI:
		return bitwise(s, i.Imm, "0111")
	case api.XORI:
		return bitwise(s, i.Imm, "0110")
	case api.LUI:
		return lowest(new(big.Int).Mul(number(i.Imm, false), big.NewInt(0x10000)))
	case api.MUL:
		return lowest(new(big.Int).Mul(number(s, true), number(t, true)))
	case api.CLZ:
		return uint32(32 - len(strings.TrimLeft(digits(s), "0")))
	case api.CLO:
		return uint32(32 - len(strings.TrimLeft(digits(s), "1")))
	}
	return wantShift(i, s, t)
}

func doIs(t *testing.T, i api.Inst, s, v, want uint32) {
	t.Helper()
	if got, ok := Do(i, s, v); got != want || !ok {
		t.Errorf("Do(%+v, %#x, %#x): %#x, %v, want %#x, true", i, s, v, got, ok, want)
	}
}

// P4.1: shifts, by rows: t is shifted; by Shift whatever s is, and by s whatever Shift is.
func TestDoShiftRows(t *testing.T) {
	for _, c := range []struct {
		kind, shift int
		s, t, want  uint32
	}{
		{api.SLL, 0, 9, 5, 5}, {api.SLL, 1, 9, 0xc0000003, 0x80000006}, {api.SLL, 4, 9, 0xf0000001, 0x10}, {api.SLL, 31, 9, 3, top}, {api.SLL, 31, 9, 2, 0}, {api.SLL, 0, 9, all, all},
		{api.SRL, 0, 9, top, top}, {api.SRL, 1, 9, top, 0x40000000}, {api.SRL, 4, 9, 0xf0000001, 0x0f000000}, {api.SRL, 31, 9, top, 1}, {api.SRL, 31, 9, most, 0},
		{api.SRA, 0, 9, top, top}, {api.SRA, 1, 9, top, 0xc0000000}, {api.SRA, 4, 9, 0xf0000001, 0xff000000}, {api.SRA, 4, 9, 0x70000001, 0x07000000}, {api.SRA, 31, 9, top, all}, {api.SRA, 31, 9, most, 0},
		{api.SLLV, 9, 0, 5, 5}, {api.SLLV, 9, 4, 3, 0x30}, {api.SLLV, 9, 31, 3, top}, {api.SLLV, 9, 32, 3, 3}, {api.SLLV, 9, 36, 3, 0x30}, {api.SLLV, 9, all, 3, top}, {api.SLLV, 9, top, 3, 3}, {api.SLLV, 9, 0xffffffe1, 3, 6},
		{api.SRLV, 9, 0, top, top}, {api.SRLV, 9, 31, top, 1}, {api.SRLV, 9, 32, top, top}, {api.SRLV, 9, 33, top, 0x40000000}, {api.SRLV, 9, all, top, 1}, {api.SRLV, 9, 0x100, top, top},
		{api.SRAV, 9, 0, top, top}, {api.SRAV, 9, 31, top, all}, {api.SRAV, 9, 31, most, 0}, {api.SRAV, 9, 32, top, top}, {api.SRAV, 9, 33, top, 0xc0000000}, {api.SRAV, 9, 63, top, all}, {api.SRAV, 9, all, most, 0}, {api.SRAV, 9, top + 1, most, 0x3fffffff},
	} {
		doIs(t, api.Inst{Kind: c.kind, Shift: c.shift}, c.s, c.t, c.want)
	}
}

// P4.1: sums, bits, what is below what, products, leading bits, by rows.
func TestDoRows(t *testing.T) {
	for _, c := range []struct {
		kind       int
		s, t, want uint32
	}{
		{api.ADD, 2, 3, 5}, {api.ADD, most, 1, top}, {api.ADD, top, top, 0}, {api.ADD, all, 1, 0}, {api.ADD, all, all, all - 1},
		{api.ADDU, 2, 3, 5}, {api.ADDU, most, 1, top}, {api.ADDU, all, 2, 1}, {api.ADDU, top, all, most},
		{api.SUB, 3, 2, 1}, {api.SUB, 2, 3, all}, {api.SUB, top, 1, most}, {api.SUB, 0, top, top}, {api.SUB, most, all, top},
		{api.SUBU, 3, 2, 1}, {api.SUBU, 1, 2, all}, {api.SUBU, 0, all, 1}, {api.SUBU, top, 1, most},
		{api.AND, 0xc, 0xa, 8}, {api.OR, 0xc, 0xa, 0xe}, {api.XOR, 0xc, 0xa, 6}, {api.NOR, 0xc, 0xa, 0xfffffff1},
		{api.AND, all, top, top}, {api.OR, 0, top, top}, {api.XOR, all, all, 0}, {api.NOR, 0, 0, all}, {api.NOR, all, 0, 0},
		{api.SLT, 1, 2, 1}, {api.SLT, 2, 1, 0}, {api.SLT, 5, 5, 0}, {api.SLT, top, 0, 1}, {api.SLT, 0, top, 0}, {api.SLT, all, 0, 1}, {api.SLT, most, top, 0}, {api.SLT, top, top, 0},
		{api.SLTU, 1, 2, 1}, {api.SLTU, 2, 1, 0}, {api.SLTU, 5, 5, 0}, {api.SLTU, top, 0, 0}, {api.SLTU, 0, top, 1}, {api.SLTU, 0, all, 1}, {api.SLTU, most, top, 1}, {api.SLTU, all, all, 0},
		{api.MUL, 3, 5, 15}, {api.MUL, all, 5, 0xfffffffb}, {api.MUL, 0x10001, 0x10001, 0x20001}, {api.MUL, 0x10000, 0x10000, 0}, {api.MUL, all, all, 1}, {api.MUL, top, all, top}, {api.MUL, most, most, 1},
		{api.CLZ, 0, 9, 32}, {api.CLZ, all, 9, 0}, {api.CLZ, 1, 9, 31}, {api.CLZ, most, 9, 1}, {api.CLZ, top, 9, 0}, {api.CLZ, 0x8000, 0, 16},
		{api.CLO, 0, 9, 0}, {api.CLO, all, 9, 32}, {api.CLO, all - 1, 9, 31}, {api.CLO, most, 9, 0}, {api.CLO, top, 9, 1}, {api.CLO, 0xff000000, 0, 8},
	} {
		doIs(t, api.Inst{Kind: c.kind}, c.s, c.t, c.want)
	}
}

// P4.1: Imm with and without its highest bit, by rows; t plays no part.
func TestDoImmRows(t *testing.T) {
	for _, c := range []struct {
		kind         int
		s, imm, want uint32
	}{
		{api.ADDI, 1, 0x7fff, 0x8000}, {api.ADDI, 1, 0x8000, 0xffff8001}, {api.ADDI, 5, 0xffff, 4}, {api.ADDI, most, 1, top}, {api.ADDI, top, 0xffff, most}, {api.ADDI, 0, 0, 0}, {api.ADDI, all, 1, 0},
		{api.ADDIU, 1, 0x7fff, 0x8000}, {api.ADDIU, 0, 0xffff, all}, {api.ADDIU, 0, 0x8000, 0xffff8000}, {api.ADDIU, most, 1, top}, {api.ADDIU, all, 1, 0}, {api.ADDIU, top, 0xffff, most},
		{api.SLTI, 0, 1, 1}, {api.SLTI, 1, 1, 0}, {api.SLTI, 0, 0xffff, 0}, {api.SLTI, top, 0xffff, 1}, {api.SLTI, all, 0xffff, 0}, {api.SLTI, all - 1, 0xffff, 1}, {api.SLTI, 0xffff7fff, 0x8000, 1}, {api.SLTI, 0xffff8000, 0x8000, 0}, {api.SLTI, 0x8000, 0x7fff, 0}, {api.SLTI, 0x7ffe, 0x7fff, 1}, {api.SLTI, most, 0x8000, 0}, {api.SLTI, all, 0, 1},
		{api.SLTIU, 0, 1, 1}, {api.SLTIU, 1, 1, 0}, {api.SLTIU, 5, 0xffff, 1}, {api.SLTIU, 0x10000, 0xffff, 1}, {api.SLTIU, all, 0xffff, 0}, {api.SLTIU, all - 1, 0xffff, 1}, {api.SLTIU, 0xffff7fff, 0x8000, 1}, {api.SLTIU, 0xffff8000, 0x8000, 0}, {api.SLTIU, top, 3, 0}, {api.SLTIU, top, 0x7fff, 0}, {api.SLTIU, most, 0x8000, 1}, {api.SLTIU, all, 0, 0},
		{api.ANDI, all, 0xff00, 0xff00}, {api.ANDI, all, 0x8000, 0x8000}, {api.ANDI, 0xffff0000, 0xffff, 0}, {api.ANDI, 0xc, 0xa, 8},
		{api.ORI, 0xf0000000, 0xff00, 0xf000ff00}, {api.ORI, 0, 0x8000, 0x8000}, {api.ORI, 0, 0xffff, 0xffff}, {api.ORI, 0xc, 0xa, 0xe},
		{api.XORI, all, 0xffff, 0xffff0000}, {api.XORI, 0, 0x8000, 0x8000}, {api.XORI, 0xc, 0xa, 6},
		{api.LUI, 5, 0x8001, 0x80010000}, {api.LUI, all, 1, 0x10000}, {api.LUI, 5, 0xffff, 0xffff0000}, {api.LUI, 5, 0, 0}, {api.LUI, 0, 0x7fff, 0x7fff0000},
	} {
		for _, v := range []uint32{0, 9, all} {
			doIs(t, api.Inst{Kind: c.kind, Imm: c.imm}, c.s, v, c.want)
		}
	}
}

// P4.1: each kind, with each two of the samples, against numbers of any size and digits.
func TestDoPairs(t *testing.T) {
	for _, kind := range numbers() {
		for _, s := range samples() {
			for _, v := range samples() {
				for _, i := range []api.Inst{{Kind: kind}, {Kind: kind, S: 1, T: 2, D: 3, Shift: 5, Imm: 0x7fff}, {Kind: kind, S: 31, T: 31, D: 31, Shift: 31, Imm: 0x8000}} {
					doIs(t, i, s, v, want(i, s, v))
				}
			}
		}
	}
}

// P4.1: each place of a shift, by Shift and by s.
func TestDoEveryPlace(t *testing.T) {
	for _, v := range samples() {
		for places := range 32 {
			for kind := api.SLL; kind <= api.SRA; kind++ {
				i := api.Inst{Kind: kind, Shift: places}
				doIs(t, i, 13, v, want(i, 13, v))
			}
			for kind := api.SLLV; kind <= api.SRAV; kind++ {
				i := api.Inst{Kind: kind, Shift: 13}
				for _, turn := range []uint32{0, 32, 64, 96, 0x100, 0x10000, most - 31, top, 0xffffffe0} {
					s := turn + uint32(places)
					doIs(t, i, s, v, want(i, uint32(places), v))
				}
			}
		}
	}
}

// P4.1: each Imm of 16 bits; those of the other bounds with each word.
func TestDoEveryImm(t *testing.T) {
	for kind := api.ADDI; kind <= api.LUI; kind++ {
		for imm := range uint32(0x10000) {
			i := api.Inst{Kind: kind, Imm: imm}
			for _, s := range []uint32{0, imm, 0xffff0000 | imm, 0xa5a5a5a5} {
				doIs(t, i, s, ^s, want(i, s, ^s))
			}
		}
		for _, imm := range imms() {
			for _, s := range samples() {
				i := api.Inst{Kind: kind, Imm: imm}
				doIs(t, i, s, ^s, want(i, s, ^s))
			}
		}
	}
}

// P4.1: an Imm above 16 bits is signed of its lowest 16 where a sign is asked for, and taken as it stands elsewhere.
func TestDoGreatImm(t *testing.T) {
	for _, c := range []struct {
		kind         int
		s, imm, want uint32
	}{
		{api.ADDI, 1, 0x18000, 0xffff8001}, {api.ADDIU, 1, 0x80000001, 2}, {api.SLTI, 0, 0xffff0001, 1}, {api.SLTI, 1, 0x10000, 0}, {api.SLTIU, 5, 0x1ffff, 1}, {api.SLTIU, 5, 0x10000, 0},
		{api.ANDI, all, 0x12345678, 0x12345678}, {api.ORI, 0, top, top}, {api.XORI, all, all, 0}, {api.LUI, 0, 0x12345678, 0x56780000}, {api.LUI, 0, 0x10000, 0},
	} {
		doIs(t, api.Inst{Kind: c.kind, Imm: c.imm}, c.s, 9, c.want)
	}
	for kind := api.ADDI; kind <= api.LUI; kind++ {
		for _, imm := range samples() {
			for _, s := range samples() {
				i := api.Inst{Kind: kind, Imm: imm}
				doIs(t, i, s, 9, want(i, s, 9))
			}
		}
	}
}

// P4.1: a Shift that is not right shifts by its number modulo 32, never below 0, as word.Sar does; none panics.
func TestDoOddShift(t *testing.T) {
	for _, turn := range []int{32, 64, -32, -64, 1 << 32, -1 << 32, math.MinInt, math.MaxInt - 31} {
		for places := range 32 {
			for kind := api.SLL; kind <= api.SRA; kind++ {
				for _, v := range bounds() {
					right := api.Inst{Kind: kind, Shift: places}
					doIs(t, api.Inst{Kind: kind, Shift: turn + places}, 3, v, want(right, 3, v))
				}
			}
		}
	}
}

// P4.1: fields that a kind does not ask, registers among them, change nothing.
func TestDoAsksNoMore(t *testing.T) {
	for _, kind := range numbers() {
		for _, other := range fields(kind) {
			i := api.Inst{Kind: kind, Shift: 3, Imm: 0x8123}
			i.S, i.T, i.D = other.S, other.T, other.D
			if kind > api.SRA {
				i.Shift = other.Shift
			}
			if kind < api.ADDI || kind > api.LUI {
				i.Imm = other.Imm
			}
			doIs(t, i, 0x80000005, 0xf0000003, want(api.Inst{Kind: kind, Shift: 3, Imm: 0x8123}, 0x80000005, 0xf0000003))
		}
	}
}

// P4.1: Is of those that give a number; of all others, kinds or not, no number and no register.
func TestIs(t *testing.T) {
	if got := len(numbers()); got != 27 {
		t.Fatalf("%d kinds that give a number", got)
	}
	for _, kind := range numbers() {
		if !Is(kind) {
			t.Errorf("Is(%d): false", kind)
		}
	}
	for _, kind := range others(numbers()...) {
		if Is(kind) {
			t.Errorf("Is(%d): true", kind)
		}
		for _, i := range fields(kind) {
			for _, s := range bounds() {
				if got, ok := Do(i, s, ^s); got != 0 || ok {
					t.Errorf("Do(%+v, %#x, %#x): %#x, %v, want 0, false", i, s, ^s, got, ok)
				}
			}
			if got := Into(i); got != 0 {
				t.Errorf("Into(%+v): %d, want 0", i, got)
			}
		}
	}
}

// P4.1: Into of each kind, with each register, and with a field that is none told as it stands.
func TestInto(t *testing.T) {
	registers := []int{32, 99, -1, -32, 1 << 32, math.MaxInt, math.MinInt}
	for r := range 32 {
		registers = append(registers, r)
	}
	inT := map[int]int{api.ADDI: 1, api.ADDIU: 1, api.SLTI: 1, api.SLTIU: 1, api.ANDI: 1, api.ORI: 1, api.XORI: 1, api.LUI: 1}
	for _, kind := range numbers() {
		for _, r := range registers {
			i := api.Inst{Kind: kind, S: 3, T: 4, D: r, Shift: 6, Imm: 7}
			if inT[kind] == 1 {
				i.T, i.D = r, 5
			}
			if got := Into(i); got != r {
				t.Errorf("Into(%+v): %d, want %d", i, got, r)
			}
		}
	}
}

// P4.1: a kind's number goes to a field that decode says it has.
func TestIntoIsToldByDecode(t *testing.T) {
	for _, kind := range numbers() {
		if i := (api.Inst{Kind: kind, T: 9}); Into(i) == 9 != (kind >= api.ADDI && kind <= api.LUI) {
			t.Errorf("Into(%+v): %d", i, Into(i))
		}
		i := api.Inst{Kind: kind, D: 9}
		if Into(i) == 0 {
			i = api.Inst{Kind: kind, T: 9}
		}
		if !decode.Right(i) || Into(i) != 9 {
			t.Errorf("Into(%+v): %d, right: %v", i, Into(i), decode.Right(i))
		}
	}
}

func halvesAre(t *testing.T, i api.Inst, s, v, hi, lo uint32) {
	t.Helper()
	if gotHi, gotLo, ok := Halves(i, s, v, 0x5555, 0x6666); gotHi != hi || gotLo != lo || !ok {
		t.Errorf("Halves(%+v, %#x, %#x): %#x, %#x, %v, want %#x, %#x, true", i, s, v, gotHi, gotLo, ok, hi, lo)
	}
}

// P4.2: HI and LO, by rows: HI stands ahead of LO.
func TestHalvesRows(t *testing.T) {
	for _, c := range []struct {
		kind         int
		s, t, hi, lo uint32
	}{
		{api.MULT, 3, 5, 0, 15}, {api.MULT, all, all, 0, 1}, {api.MULT, all, 2, all, all - 1}, {api.MULT, 2, all, all, all - 1}, {api.MULT, top, top, 0x40000000, 0}, {api.MULT, top, all, 0, top}, {api.MULT, top, 1, all, top}, {api.MULT, most, most, 0x3fffffff, 1}, {api.MULT, 0, top, 0, 0},
		{api.MULTU, 3, 5, 0, 15}, {api.MULTU, all, all, all - 1, 1}, {api.MULTU, all, 2, 1, all - 1}, {api.MULTU, top, top, 0x40000000, 0}, {api.MULTU, top, all, most, top}, {api.MULTU, 0x10000, 0x10000, 1, 0},
		{api.DIV, 7, 2, 1, 3}, {api.DIV, all - 6, 2, all, all - 2}, {api.DIV, 7, all - 1, 1, all - 2}, {api.DIV, all - 6, all - 1, all, 3}, {api.DIV, top, all, 0, top}, {api.DIV, top, 1, 0, top}, {api.DIV, 1, top, 1, 0},
		{api.DIV, 7, 0, 7, all}, {api.DIV, all - 6, 0, all - 6, all}, {api.DIV, 0, 0, 0, all}, {api.DIV, top, 0, top, all},
		{api.DIVU, 7, 2, 1, 3}, {api.DIVU, all - 6, 2, 1, 0x7ffffffc}, {api.DIVU, top, all, top, 0}, {api.DIVU, all, top, most, 1},
		{api.DIVU, 7, 0, 7, all}, {api.DIVU, 0, 0, 0, all}, {api.DIVU, all, 0, all, all},
		{api.MTHI, 9, 8, 9, 0x6666}, {api.MTHI, 0, 8, 0, 0x6666}, {api.MTHI, all, 8, all, 0x6666},
		{api.MTLO, 9, 8, 0x5555, 9}, {api.MTLO, 0, 8, 0x5555, 0}, {api.MTLO, all, 8, 0x5555, all},
	} {
		for _, i := range fields(c.kind) {
			halvesAre(t, i, c.s, c.t, c.hi, c.lo)
		}
	}
}

// quotient gives quotient and remainder; by 0 as chapter 1 has it.
func quotient(a, b uint32, sign bool) (uint32, uint32) {
	if b == 0 {
		return all, a
	}
	// QuoRem cuts off towards 0, as the promise does.
	quo, rem := new(big.Int).QuoRem(number(a, sign), number(b, sign), new(big.Int))
	return lowest(quo), lowest(rem)
}

// P4.2: products and quotients of each two of the samples, against numbers of any size.
func TestHalvesPairs(t *testing.T) {
	for _, s := range samples() {
		for _, v := range samples() {
			for _, c := range []struct {
				product, division int
				sign              bool
			}{{api.MULT, api.DIV, true}, {api.MULTU, api.DIVU, false}} {
				product := new(big.Int).Mul(number(s, c.sign), number(v, c.sign))
				halvesAre(t, api.Inst{Kind: c.product}, s, v, lowest(new(big.Int).Rsh(product, 32)), lowest(product))
				quo, rem := quotient(s, v, c.sign)
				halvesAre(t, api.Inst{Kind: c.division}, s, v, rem, quo)
			}
			halvesAre(t, api.Inst{Kind: api.MTHI}, s, v, s, 0x6666)
			halvesAre(t, api.Inst{Kind: api.MTLO}, s, v, 0x5555, s)
		}
	}
}

// P4.2: behind all others, kinds or not, HI and LO are as they were, and told beside false.
func TestHalvesOfOthers(t *testing.T) {
	for _, kind := range others(api.MULT, api.MULTU, api.DIV, api.DIVU, api.MTHI, api.MTLO) {
		for _, i := range fields(kind) {
			for _, hi := range bounds() {
				lo := ^hi
				if gotHi, gotLo, ok := Halves(i, 9, 8, hi, lo); gotHi != hi || gotLo != lo || ok {
					t.Errorf("Halves(%+v, 9, 8, %#x, %#x): %#x, %#x, %v", i, hi, lo, gotHi, gotLo, ok)
				}
			}
		}
	}
}

// P4.2: Traps, by rows; Imm is signed of 16 bits, and t plays no part beside it.
func TestTrapsRows(t *testing.T) {
	for _, c := range []struct {
		kind      int
		s, t, imm uint32
		want      bool
	}{
		{api.ADD, 1, 2, 0, false}, {api.ADD, most, 1, 0, true}, {api.ADD, most, 0, 0, false}, {api.ADD, most, all, 0, false}, {api.ADD, all, 1, 0, false}, {api.ADD, top, all, 0, true}, {api.ADD, top, top, 0, true}, {api.ADD, top, most, 0, false}, {api.ADD, most, 0, 1, false},
		{api.SUB, 1, 2, 0, false}, {api.SUB, top, 1, 0, true}, {api.SUB, top, 0, 0, false}, {api.SUB, most, 1, 0, false}, {api.SUB, most, all, 0, true}, {api.SUB, 0, top, 0, true}, {api.SUB, all, top, 0, false}, {api.SUB, top, top, 0, false},
		{api.ADDI, most, 0, 1, true}, {api.ADDI, most, 1, 0, false}, {api.ADDI, most, 5, 0xffff, false}, {api.ADDI, top, 0, 0xffff, true}, {api.ADDI, top, all, 1, false}, {api.ADDI, most - 0x7fff, 0, 0x7fff, false}, {api.ADDI, most - 0x7ffe, 0, 0x7fff, true}, {api.ADDI, top + 0x8000, 0, 0x8000, false}, {api.ADDI, top + 0x7fff, 0, 0x8000, true}, {api.ADDI, all, 0, 1, false}, {api.ADDI, most, 0, 0x18000, false}, {api.ADDI, most, 0, 0x10001, true},
		{api.TGE, 6, 5, 0, true}, {api.TGE, 5, 5, 0, true}, {api.TGE, 4, 5, 0, false}, {api.TGE, 0, top, 0, true}, {api.TGE, top, 0, 0, false}, {api.TGE, 0, all, 0, true}, {api.TGE, top, top, 0, true},
		{api.TLT, 6, 5, 0, false}, {api.TLT, 5, 5, 0, false}, {api.TLT, 4, 5, 0, true}, {api.TLT, top, 0, 0, true}, {api.TLT, 0, top, 0, false}, {api.TLT, all, 0, 0, true}, {api.TLT, top, top, 0, false},
		{api.TEQ, 5, 5, 0, true}, {api.TEQ, 5, 6, 0, false}, {api.TEQ, 6, 5, 0, false}, {api.TEQ, 0, top, 0, false}, {api.TEQ, all, all, 0, true},
		{api.TNE, 5, 5, 0, false}, {api.TNE, 5, 6, 0, true}, {api.TNE, 6, 5, 0, true}, {api.TNE, 0, top, 0, true}, {api.TNE, all, all, 0, false},
	} {
		i := api.Inst{Kind: c.kind, Imm: c.imm}
		if got := Traps(i, c.s, c.t); got != c.want {
			t.Errorf("Traps(%+v, %#x, %#x): %v", i, c.s, c.t, got)
		}
	}
}

// wantTrap is what Traps must tell.
func wantTrap(i api.Inst, s, t uint32) bool {
	a, b := number(s, true), number(t, true)
	switch i.Kind {
	case api.ADD:
		return !fits(new(big.Int).Add(a, b))
	case api.SUB:
		return !fits(new(big.Int).Sub(a, b))
	case api.ADDI:
		return !fits(new(big.Int).Add(a, small(i.Imm)))
	case api.TGE:
		return a.Cmp(b) >= 0
	case api.TLT:
		return a.Cmp(b) < 0
	case api.TEQ:
		return a.Cmp(b) == 0
	case api.TNE:
		return a.Cmp(b) != 0
	}
	return false
}

// P4.2: Traps of each kind that may, with each two of the samples; where a sum traps, Do gives it modulo 2^32 all the same.
func TestTrapsPairs(t *testing.T) {
	for _, kind := range []int{api.ADD, api.SUB, api.ADDI, api.TGE, api.TLT, api.TEQ, api.TNE} {
		for _, s := range samples() {
			for _, v := range samples() {
				for _, imm := range imms() {
					i := api.Inst{Kind: kind, Imm: imm}
					got := Traps(i, s, v)
					if got != wantTrap(i, s, v) {
						t.Errorf("Traps(%+v, %#x, %#x): %v", i, s, v, got)
					}
					if got && Is(kind) {
						doIs(t, i, s, v, want(i, s, v))
					}
				}
			}
		}
	}
}

// P4.2: Traps by fields that are not right asks no more of them than of others.
func TestTrapsOddFields(t *testing.T) {
	for _, kind := range []int{api.ADD, api.SUB, api.ADDI, api.TGE, api.TLT, api.TEQ, api.TNE} {
		for _, i := range fields(kind) {
			for _, s := range bounds() {
				for _, v := range bounds() {
					if got := Traps(i, s, v); got != wantTrap(i, s, v) {
						t.Errorf("Traps(%+v, %#x, %#x): %v", i, s, v, got)
					}
				}
			}
		}
	}
}

// P4.2: no other kind traps, whatever its values and fields; those that may are decode's Trap.
func TestTrapsOfOthers(t *testing.T) {
	may := []int{api.ADD, api.SUB, api.ADDI, api.TGE, api.TLT, api.TEQ, api.TNE}
	for _, kind := range others(may...) {
		if got := decode.Class(api.Inst{Kind: kind}); got == decode.Trap {
			t.Errorf("kind %d is of class Trap", kind)
		}
		for _, i := range fields(kind) {
			for _, s := range bounds() {
				for _, v := range bounds() {
					if Traps(i, s, v) {
						t.Errorf("Traps(%+v, %#x, %#x): true", i, s, v)
					}
				}
			}
		}
	}
	for _, kind := range may {
		if got := decode.Class(api.Inst{Kind: kind}); got != decode.Trap {
			t.Errorf("kind %d is of class %d", kind, got)
		}
	}
}

// P4.1, P4.2: a number or HI and LO, never both.
func TestNoKindDoesBoth(t *testing.T) {
	for _, kind := range append(others(), numbers()...) {
		if _, _, sets := Halves(api.Inst{Kind: kind}, 1, 2, 3, 4); sets && Is(kind) {
			t.Errorf("kind %d gives a number, and sets HI or LO", kind)
		}
	}
}

// The chapter's run and its examples.
func TestChapter(t *testing.T) {
	doIs(t, api.Inst{Kind: api.NOR}, 0, 0, all)
	if got, ok := Do(api.Inst{Kind: api.J}, 1, 2); got != 0 || ok {
		t.Errorf("Do(J): %#x, %v", got, ok)
	}
	if Traps(api.Inst{Kind: api.ADDU}, most, 1) {
		t.Error("Traps(ADDU): true")
	}
}
