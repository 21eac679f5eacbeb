package decode

import (
	"math"
	"math/rand"
	"strings"
	"testing"

	"pianola/api"
)

// entry is a piece of the chapter's table: an op, the field that tells its kinds, the fields that they have, and the kinds by number.
// Of "op" the number is the op; "CO fn" is fn behind an S of 16; "Imm26" is the Imm of J and JAL.
type entry struct {
	op         uint32
	by, fields string
	kinds      map[uint32]int
}

func chapter() []entry {
	return []entry{
		{0, "fn", "T D Shift", map[uint32]int{0: api.SLL, 2: api.SRL, 3: api.SRA}},
		{0, "fn", "S T D", map[uint32]int{4: api.SLLV, 6: api.SRLV, 7: api.SRAV}},
		{0, "fn", "S", map[uint32]int{8: api.JR}},
		{0, "fn", "S D", map[uint32]int{9: api.JALR}},
		{0, "fn", "S T D", map[uint32]int{10: api.MOVZ, 11: api.MOVN}},
		{0, "fn", "", map[uint32]int{12: api.SYSCALL, 13: api.BREAK, 15: api.SYNC}},
		{0, "fn", "D", map[uint32]int{16: api.MFHI, 18: api.MFLO}},
		{0, "fn", "S", map[uint32]int{17: api.MTHI, 19: api.MTLO}},
		{0, "fn", "S T", map[uint32]int{24: api.MULT, 25: api.MULTU, 26: api.DIV, 27: api.DIVU}},
		{0, "fn", "S T D", map[uint32]int{32: api.ADD, 33: api.ADDU, 34: api.SUB, 35: api.SUBU, 36: api.AND, 37: api.OR, 38: api.XOR, 39: api.NOR, 42: api.SLT, 43: api.SLTU}},
		{0, "fn", "S T", map[uint32]int{48: api.TGE, 50: api.TLT, 52: api.TEQ, 54: api.TNE}},
		{1, "T", "S Imm", map[uint32]int{0: api.BLTZ, 1: api.BGEZ, 16: api.BLTZAL, 17: api.BGEZAL}},
		{0, "op", "Imm26", map[uint32]int{2: api.J, 3: api.JAL}},
		{0, "op", "S T Imm", map[uint32]int{4: api.BEQ, 5: api.BNE}},
		{0, "op", "S Imm", map[uint32]int{6: api.BLEZ, 7: api.BGTZ}},
		{0, "op", "S T Imm", map[uint32]int{8: api.ADDI, 9: api.ADDIU, 10: api.SLTI, 11: api.SLTIU, 12: api.ANDI, 13: api.ORI, 14: api.XORI}},
		{0, "op", "T Imm", map[uint32]int{15: api.LUI}},
		{16, "S", "T D", map[uint32]int{0: api.MFC0, 4: api.MTC0}},
		{16, "CO fn", "", map[uint32]int{1: api.TLBR, 2: api.TLBWI, 6: api.TLBWR, 8: api.TLBP, 24: api.ERET, 32: api.WAIT}},
		{0, "op", "", map[uint32]int{17: api.COP1}},
		{28, "fn", "S T D", map[uint32]int{2: api.MUL}},
		{28, "fn", "S D", map[uint32]int{32: api.CLZ, 33: api.CLO}},
		{0, "op", "S T Imm", map[uint32]int{32: api.LB, 33: api.LH, 35: api.LW, 36: api.LBU, 37: api.LHU}},
		{0, "op", "S T Imm", map[uint32]int{40: api.SB, 41: api.SH, 43: api.SW}},
		{0, "op", "", map[uint32]int{47: api.CACHE, 51: api.PREF}},
		{0, "op", "S T Imm", map[uint32]int{48: api.LL, 56: api.SC}},
	}
}

// shape is one kind of the table: the bits that are asked and what they are, and the fields.
type shape struct {
	kind        int
	asked, bits uint32
	fields      []string
}

// place is where a field begins, and how many bits it has.
type place struct{ at, bits int }

func placeOf(field string) place {
	return map[string]place{"op": {26, 6}, "S": {21, 5}, "T": {16, 5}, "D": {11, 5}, "Shift": {6, 5}, "fn": {0, 6}, "Imm": {0, 16}, "Imm26": {0, 26}}[field]
}

func (p place) most() uint32 { return uint32(1)<<p.bits - 1 }
func (p place) all() uint32  { return p.most() << p.at }

func (s *shape) ask(field string, v uint32) {
	p := placeOf(field)
	s.asked |= p.all()
	s.bits |= v << p.at
}

// shapes are the table's kinds, by Kind; the one at Reserved is empty.
func shapes() [api.Kinds]shape {
	var out [api.Kinds]shape
	for _, e := range chapter() {
		for number, kind := range e.kinds {
			s := shape{kind: kind, fields: strings.Fields(e.fields)}
			if e.by != "op" {
				s.ask("op", e.op)
			}
			if e.by == "CO fn" {
				s.ask("S", 16)
			}
			s.ask(strings.TrimPrefix(e.by, "CO "), number)
			out[kind] = s
		}
	}
	return out
}

// told are the bits of the fields that the shape has.
func (s shape) told() uint32 {
	bits := uint32(0)
	for _, f := range s.fields {
		bits |= placeOf(f).all()
	}
	return bits
}

// read tells the instruction of a word of this shape.
func (s shape) read(w uint32) api.Inst {
	i := api.Inst{Kind: s.kind}
	for _, f := range s.fields {
		p := placeOf(f)
		i = with(i, f, int64(w>>p.at&p.most()))
	}
	return i
}

// with is i with another number in a field.
func with(i api.Inst, field string, v int64) api.Inst {
	switch field {
	case "S":
		i.S = int(v)
	case "T":
		i.T = int(v)
	case "D":
		i.D = int(v)
	case "Shift":
		i.Shift = int(v)
	case "Imm", "Imm26":
		i.Imm = uint32(v)
	}
	return i
}

// want tells what a word is, by going through all shapes.
func want(all *[api.Kinds]shape, w uint32) api.Inst {
	for kind := api.Reserved + 1; kind < api.Kinds; kind++ {
		if s := &all[kind]; w&s.asked == s.bits {
			return s.read(w)
		}
	}
	return api.Inst{}
}

// fillings are bits to lay into what is not asked: none, all, every other one, one alone, any.
func fillings() []uint32 {
	out := []uint32{0, math.MaxUint32, 0x55555555, 0xaaaaaaaa, 0x0f0f0f0f, 0xf0f0f0f0}
	for bit := range 32 {
		out = append(out, 1<<bit, ^uint32(1<<bit))
	}
	random := rand.New(rand.NewSource(3))
	for range 100 {
		out = append(out, random.Uint32())
	}
	return out
}

// The tests' own table names each kind once, and no word is of two of them.
func TestTableIsWhole(t *testing.T) {
	all := shapes()
	for kind := api.Reserved + 1; kind < api.Kinds; kind++ {
		if all[kind].kind != kind {
			t.Fatalf("kind %d is missing", kind)
		}
		for other := kind + 1; other < api.Kinds; other++ {
			if both := all[kind].asked & all[other].asked; all[kind].bits&both == all[other].bits&both {
				t.Fatalf("kinds %d and %d have words in common", kind, other)
			}
		}
		if all[kind].asked&all[kind].told() != 0 {
			t.Fatalf("kind %d: a field is asked and told", kind)
		}
	}
}

// P3.1: each kind of the table, with any fields, and with any bits in those that are not asked.
func TestOfEachKind(t *testing.T) {
	for kind, s := range shapes() {
		if kind == api.Reserved {
			continue
		}
		for _, fill := range fillings() {
			w := s.bits | fill&^s.asked
			if got := Of(w); got != s.read(w) {
				t.Fatalf("Of(%08x): %+v, want %+v", w, got, s.read(w))
			}
		}
	}
}

// P3.1: some words written out, from programs.
func TestOfWords(t *testing.T) {
	for w, want := range map[uint32]api.Inst{
		0x00000000: {Kind: api.SLL},
		0x00021fc3: {Kind: api.SRA, T: 2, D: 3, Shift: 31},
		0x03e00008: {Kind: api.JR, S: 31},
		0x0320f809: {Kind: api.JALR, S: 25, D: 31},
		0x0000000c: {Kind: api.SYSCALL},
		0x0007000d: {Kind: api.BREAK},
		0x014b001a: {Kind: api.DIV, S: 10, T: 11},
		0x00851021: {Kind: api.ADDU, S: 4, T: 5, D: 2},
		0x000001f4: {Kind: api.TEQ},
		0x04110001: {Kind: api.BGEZAL, Imm: 1},
		0x0c100009: {Kind: api.JAL, Imm: 0x100009},
		0x1000ffff: {Kind: api.BEQ, Imm: 0xffff},
		0x27bdffe0: {Kind: api.ADDIU, S: 29, T: 29, Imm: 0xffe0},
		0x3c1c8000: {Kind: api.LUI, T: 28, Imm: 0x8000},
		0x3fff8000: {Kind: api.LUI, T: 31, Imm: 0x8000},
		0x401a6800: {Kind: api.MFC0, T: 26, D: 13},
		0x40826000: {Kind: api.MTC0, T: 2, D: 12},
		0x42000006: {Kind: api.TLBWR},
		0x42000018: {Kind: api.ERET},
		0x42000020: {Kind: api.WAIT},
		0x46000000: {Kind: api.COP1},
		0x70851002: {Kind: api.MUL, S: 4, T: 5, D: 2},
		0x70421020: {Kind: api.CLZ, S: 2, D: 2},
		0x8fbf0010: {Kind: api.LW, S: 29, T: 31, Imm: 0x10},
		0xafbf0010: {Kind: api.SW, S: 29, T: 31, Imm: 0x10},
		0xbc400000: {Kind: api.CACHE},
		0xc0820000: {Kind: api.LL, S: 4, T: 2},
		0xcc800020: {Kind: api.PREF},
		0xe0820000: {Kind: api.SC, S: 4, T: 2},
	} {
		if got := Of(w); got != want {
			t.Errorf("Of(%08x): %+v, want %+v", w, got, want)
		}
	}
}

// numbers are those from 0 up to below n that are none of the given.
func numbers(n uint32, without ...uint32) []uint32 {
	var out []uint32
next:
	for v := range n {
		for _, x := range without {
			if v == x {
				continue next
			}
		}
		out = append(out, v)
	}
	return out
}

// P3.1: each op, each fn of op 0, 16 and 28, each T of op 1 and each S of op 16 that the table leaves out is Reserved, whatever the other bits.
func TestOfReserved(t *testing.T) {
	reserved := func(asked, w uint32) {
		t.Helper()
		for _, fill := range fillings() {
			if got := Of(w | fill&^asked); got != (api.Inst{}) {
				t.Errorf("Of(%08x): %+v, want Reserved, and no fields", w|fill&^asked, got)
			}
		}
	}
	const op, s, high, fn = 63 << 26, 31 << 21, 31 << 16, 63
	for _, v := range numbers(64, 0, 1, 2, 3, 4, 5, 6, 7, 8, 9, 10, 11, 12, 13, 14, 15, 16, 17, 28, 32, 33, 35, 36, 37, 40, 41, 43, 47, 48, 51, 56) {
		reserved(op, v<<26)
	}
	for _, v := range numbers(64, 0, 2, 3, 4, 6, 7, 8, 9, 10, 11, 12, 13, 15, 16, 17, 18, 19, 24, 25, 26, 27, 32, 33, 34, 35, 36, 37, 38, 39, 42, 43, 48, 50, 52, 54) {
		reserved(op|fn, v)
	}
	for _, v := range numbers(32, 0, 1, 16, 17) {
		reserved(op|high, 1<<26|v<<16)
	}
	for _, v := range numbers(32, 0, 4, 16) {
		reserved(op|s, 16<<26|v<<21)
	}
	for _, v := range numbers(64, 1, 2, 6, 8, 24, 32) {
		reserved(op|s|fn, 16<<26|16<<21|v)
	}
	for _, v := range numbers(64, 2, 32, 33) {
		reserved(op|fn, 28<<26|v)
	}
}

// P3.1: every op with every S, T and fn, held against the table.
func TestOfEveryWord(t *testing.T) {
	all := shapes()
	random := rand.New(rand.NewSource(5))
	for high := range uint32(1 << 16) {
		for fn := range uint32(64) {
			w := high<<16 | random.Uint32()&0xffc0 | fn
			if got, want := Of(w), want(&all, w); got != want {
				t.Fatalf("Of(%08x): %+v, want %+v", w, got, want)
			}
		}
	}
}

// wordIs asks for the word, and that Right says so.
func wordIs(t *testing.T, i api.Inst, want uint32) {
	t.Helper()
	if w, ok := Word(i); w != want || !ok {
		t.Errorf("Word(%+v): %08x, %v, want %08x, true", i, w, ok, want)
	}
	if !Right(i) {
		t.Errorf("Right(%+v): false", i)
	}
}

// noWord asks for the refusal, beside which the word is 0.
func noWord(t *testing.T, i api.Inst) {
	t.Helper()
	if w, ok := Word(i); w != 0 || ok {
		t.Errorf("Word(%+v): %08x, %v, want 0, false", i, w, ok)
	}
	if Right(i) {
		t.Errorf("Right(%+v): true", i)
	}
}

// P3.2: the word of each kind, with fields at their least, at their greatest and between; all other bits are 0.
func TestWordEachKind(t *testing.T) {
	for kind, s := range shapes() {
		if kind == api.Reserved {
			continue
		}
		wordIs(t, api.Inst{Kind: kind}, s.bits)
		for _, fill := range fillings() {
			w := s.bits | fill&s.told()
			wordIs(t, s.read(w), w)
		}
	}
}

// P3.2: each bit of each field, of those that the kind has and of those that must be 0.
func TestRightBits(t *testing.T) {
	for kind, s := range shapes() {
		if kind == api.Reserved {
			continue
		}
		has := map[string]int{}
		for _, f := range s.fields {
			has[strings.TrimSuffix(f, "26")] = placeOf(f).bits
		}
		for _, base := range []api.Inst{{Kind: kind}, s.read(math.MaxUint32)} {
			for _, f := range []string{"S", "T", "D", "Shift", "Imm"} {
				size := 64
				if f == "Imm" {
					size = 32
				}
				for bit := range size {
					i := with(base, f, int64(uint64(1)<<bit))
					if bit >= has[f] {
						noWord(t, i)
					} else if !Right(i) {
						t.Errorf("Right(%+v): false", i)
					}
				}
			}
		}
	}
}

// P3.2: numbers a bit too great, below 0, and so great that their lowest bits look right.
func TestRightBounds(t *testing.T) {
	for kind, s := range shapes() {
		if kind == api.Reserved {
			continue
		}
		for _, f := range []string{"S", "T", "D", "Shift"} {
			for _, v := range []int64{32, 33, 63, 64, -1, -31, -32, -33, 256, 1 << 26, 1 << 32, 1<<32 + 1, -1 << 32, math.MaxInt32, math.MinInt32, math.MaxInt64, math.MinInt64, math.MinInt64 + 3} {
				noWord(t, with(api.Inst{Kind: kind}, f, v))
				noWord(t, with(s.read(0x12345678), f, v))
			}
		}
		imm := uint32(0)
		for _, f := range s.fields {
			if strings.HasPrefix(f, "Imm") {
				imm = placeOf(f).most()
			}
		}
		wordIs(t, api.Inst{Kind: kind, Imm: imm}, s.bits|imm)
		for _, v := range []uint32{imm + 1, imm + 2, imm | 1<<26, imm | 1<<31, math.MaxUint32 - 1, math.MaxUint32} {
			noWord(t, api.Inst{Kind: kind, Imm: v})
		}
	}
}

// noKinds are numbers that no kind has, Reserved among them; some look like a kind's in fewer bits.
func noKinds() []int {
	return []int{api.Reserved, -1, -2, -api.SLL, -api.PREF, api.Kinds, api.Kinds + 1, 127, 128, 255, 256, 256 + api.SLL, 999, 1<<16 + api.ADD, 1<<32 + api.SLL, 1<<32 + api.BEQ, -1<<32 + api.LW, math.MaxInt32, math.MinInt32, math.MaxInt, math.MinInt, math.MinInt + api.JR}
}

// P3.2: Reserved and Kinds that are none have no word, whatever their fields.
func TestNoKinds(t *testing.T) {
	for _, kind := range noKinds() {
		noWord(t, api.Inst{Kind: kind})
		noWord(t, api.Inst{Kind: kind, S: 1, T: 2, D: 3, Shift: 4, Imm: 5})
		noWord(t, api.Inst{Kind: kind, S: math.MinInt, T: -1, D: math.MaxInt, Shift: 32, Imm: math.MaxUint32})
	}
}

// classes are the kinds of each class but Plain.
func classes() map[int][]int {
	return map[int][]int{
		Branch: {api.JR, api.JALR, api.BLTZ, api.BGEZ, api.BLTZAL, api.BGEZAL, api.J, api.JAL, api.BEQ, api.BNE, api.BLEZ, api.BGTZ},
		Load:   {api.LB, api.LH, api.LW, api.LBU, api.LHU, api.LL},
		Store:  {api.SB, api.SH, api.SW, api.SC},
		System: {api.MFC0, api.MTC0, api.TLBR, api.TLBWI, api.TLBWR, api.TLBP, api.ERET, api.WAIT, api.COP1, api.SYSCALL, api.BREAK},
		Trap:   {api.ADD, api.SUB, api.ADDI, api.TGE, api.TLT, api.TEQ, api.TNE},
	}
}

// P3.2: the class of each kind, and of what is none, whatever the fields.
func TestClass(t *testing.T) {
	want := map[int]int{}
	for kind := api.Reserved + 1; kind < api.Kinds; kind++ {
		want[kind] = Plain
	}
	for class, kinds := range classes() {
		for _, kind := range kinds {
			want[kind] = class
		}
	}
	for _, kind := range noKinds() {
		want[kind] = System
	}
	for kind, class := range want {
		for _, i := range []api.Inst{{Kind: kind}, {Kind: kind, S: 31, T: 31, D: 31, Shift: 31, Imm: 0xffff}, {Kind: kind, S: -1, T: 99, D: math.MaxInt, Shift: math.MinInt, Imm: math.MaxUint32}} {
			if got := Class(i); got != class {
				t.Errorf("Class(%+v): %d, want %d", i, got, class)
			}
		}
	}
	if got := [...]int{Plain, Trap, Branch, Load, Store, System}; got != [...]int{1, 2, 3, 4, 5, 6} {
		t.Errorf("the numbers of the classes: %v", got)
	}
}

// P3.3: an instruction comes back from its word, and a word from its instruction but for the bits that are not told.
func TestThereAndBack(t *testing.T) {
	random := rand.New(rand.NewSource(11))
	all := shapes()
	for range 200000 {
		i := all[1+random.Intn(api.Kinds-1)].read(random.Uint32())
		w, ok := Word(i)
		if got := Of(w); !ok || got != i {
			t.Fatalf("Of(Word(%+v)): %+v, of %08x, %v", i, got, w, ok)
		}
	}
	for range 200000 {
		w := random.Uint32()
		i := Of(w)
		got, ok := Word(i)
		if i.Kind == api.Reserved {
			if ok || got != 0 {
				t.Fatalf("Word(Of(%08x)): %08x, %v, of Reserved", w, got, ok)
			}
			continue
		}
		if s := all[i.Kind]; !ok || got != w&(s.asked|s.told()) {
			t.Fatalf("Word(Of(%08x)): %08x, %v, of %+v", w, got, ok, i)
		}
	}
}

// P3.3: fields that are few enough are gone through one by one.
func TestThereAndBackAll(t *testing.T) {
	for kind, s := range shapes() {
		if kind == api.Reserved {
			continue
		}
		for _, f := range s.fields {
			p := placeOf(f)
			for v := range min(p.most(), 0xffff) + 1 {
				i := with(api.Inst{Kind: kind}, f, int64(v))
				if w, ok := Word(i); !ok || Of(w) != i {
					t.Fatalf("Of(Word(%+v)): %+v, of %08x, %v", i, Of(w), w, ok)
				}
			}
		}
	}
}

// The chapter's run and its examples.
func TestChapter(t *testing.T) {
	if got := Of(0); got != (api.Inst{Kind: api.SLL}) {
		t.Errorf("Of(0): %+v", got)
	}
	if got := Of(0xffffffff); got != (api.Inst{Kind: api.Reserved}) {
		t.Errorf("Of(0xffffffff): %+v", got)
	}
	noWord(t, api.Inst{Kind: api.SLL, Shift: 32})
	wordIs(t, api.Inst{Kind: api.SLL, Shift: 31}, 0x7c0)
}
