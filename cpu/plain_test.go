package cpu

import (
	"math/bits"
	"strings"

	"pianola/api"
	"pianola/bus"
	"pianola/decode"
)

// plain tells steps by itself, on a bus of its own: words are read by decode, all else is told here, by numbers of 64 bits and by bits one by one.
type plain struct {
	s api.State
	b *bus.Bus
}

// fault is an exception: its number, whether it is a refill, and the address that it is about, if it is about one.
type fault struct {
	code   int
	refill bool
	about  bool
	va     uint32
}

var fine = fault{code: -1}

// isOn tells bit n of v.
func isOn(v uint32, n int) bool {
	return v>>n%2 == 1
}

// turned is v with bit n on, or off.
func turned(v uint32, n int, on bool) uint32 {
	switch {
	case on && !isOn(v, n):
		return v + 1<<n
	case !on && isOn(v, n):
		return v - 1<<n
	}
	return v
}

// signed is the number with a sign that the lowest size bits of v are.
func signed(v uint32, size int) int64 {
	n := int64(v) % (1 << size)
	if n >= 1<<(size-1) {
		n -= 1 << size
	}
	return n
}

func (p *plain) user() bool {
	return isOn(p.s.C0[12], 4) && !isOn(p.s.C0[12], 1)
}

func (p *plain) pending() bool {
	for n := 8; n < 16; n++ {
		if isOn(p.s.C0[12], n) && isOn(p.s.C0[13], n) {
			return true
		}
	}
	return false
}

func (p *plain) line() {
	p.s.C0[13] = turned(p.s.C0[13], 10, p.b.Raised())
}

func (p *plain) pass() {
	p.s.Time++
	p.s.C0[9]++
	if p.s.C0[9] == p.s.C0[11] {
		p.s.C0[13] = turned(p.s.C0[13], 15, true)
	}
	p.line()
}

func (p *plain) enter(f fault) int {
	if f.about {
		p.s.C0[8] = f.va
		if f.code < 4 {
			p.s.C0[10] = f.va - f.va%1024 + p.s.C0[10]%1024
		}
	}
	inside := isOn(p.s.C0[12], 1)
	if !inside {
		p.s.C0[14] = p.s.PC
		if p.s.Slot {
			p.s.C0[14] -= 4
		}
		p.s.C0[13] = turned(p.s.C0[13], 31, p.s.Slot)
	}
	for n := range 5 {
		p.s.C0[13] = turned(p.s.C0[13], 2+n, f.code>>n%2 == 1)
	}
	p.s.C0[12] = turned(p.s.C0[12], 1, true)
	p.s.PC = 0x80000180
	if f.refill && !inside {
		p.s.PC = 0x80000000
	}
	p.s.Next, p.s.Slot = p.s.PC+4, false
	p.pass()
	return f.code
}

// find tells where n bytes at va lie.
func (p *plain) find(va uint32, n int, store bool) (uint32, fault) {
	more := 0
	if store {
		more = 1
	}
	switch {
	case va%uint32(n) != 0, va >= 0x80000000 && p.user():
		return 0, fault{code: 4 + more, about: true, va: va}
	case va >= 0x80000000 && va < 0xc0000000:
		return va % 0x20000000, fine
	}
	for _, e := range p.s.Table {
		if e.Hi/1024 != va/1024 || !isOn(e.Lo, 2) && e.Hi%256 != p.s.C0[10]%256 {
			continue
		}
		switch {
		case !isOn(e.Lo, 0):
			return 0, fault{code: 2 + more, about: true, va: va}
		case store && !isOn(e.Lo, 1):
			return 0, fault{code: 1, about: true, va: va}
		}
		return e.Lo - e.Lo%1024 + va%1024, fine
	}
	return 0, fault{code: 2 + more, refill: true, about: true, va: va}
}

func (p *plain) fetch() (api.Inst, fault) {
	at, f := p.find(p.s.PC, 4, false)
	if f != fine {
		return api.Inst{}, f
	}
	w, ok := p.b.Load(at, 4, p.s.Time)
	if !ok {
		return api.Inst{}, fault{code: 6}
	}
	return decode.Of(w), fine
}

func (p *plain) step() int {
	p.b.Fire(p.s.Time)
	p.line()
	if p.s.Waits && !p.pending() {
		return -2
	}
	p.s.Waits = false
	if p.pending() && isOn(p.s.C0[12], 0) && !isOn(p.s.C0[12], 1) {
		return p.enter(fault{code: 0})
	}
	i, f := p.fetch()
	if f != fine {
		return p.enter(f)
	}
	return p.exec(i)
}

func (p *plain) exec(i api.Inst) int {
	p.s.R[0] = 0
	f := p.bars(i)
	if f == fine {
		was := p.s
		if f = p.do(i); f != fine {
			p.s = was
		}
	}
	if f != fine {
		return p.enter(f)
	}
	p.s.R[0] = 0
	p.pass()
	return -1
}

// fields are those that a kind has: h is Shift, i Imm of 16 bits, j of 26.
func fields(kind int) string {
	switch {
	case kind == api.SLL, kind == api.SRL, kind == api.SRA:
		return "tdh"
	case kind >= api.SLLV && kind <= api.SRAV, kind == api.MOVZ, kind == api.MOVN, kind >= api.ADD && kind <= api.SLTU, kind == api.MUL:
		return "std"
	case kind == api.JR, kind == api.MTHI, kind == api.MTLO:
		return "s"
	case kind == api.JALR, kind == api.CLZ, kind == api.CLO:
		return "sd"
	case kind == api.MFHI, kind == api.MFLO:
		return "d"
	case kind >= api.MULT && kind <= api.DIVU, kind >= api.TGE && kind <= api.TNE:
		return "st"
	case kind >= api.BLTZ && kind <= api.BGEZAL, kind == api.BLEZ, kind == api.BGTZ:
		return "si"
	case kind == api.J, kind == api.JAL:
		return "j"
	case kind == api.BEQ, kind == api.BNE, kind >= api.ADDI && kind <= api.XORI, kind >= api.LB && kind <= api.SC:
		return "sti"
	case kind == api.LUI:
		return "ti"
	case kind == api.MFC0, kind == api.MTC0:
		return "td"
	}
	return ""
}

func isRight(i api.Inst) bool {
	has := func(field string, most, n int64) bool {
		if !strings.Contains(fields(i.Kind), field) {
			most = 0
		}
		return n >= 0 && n <= most
	}
	imm := has("i", 1<<16-1, int64(i.Imm)) || has("j", 1<<26-1, int64(i.Imm))
	return i.Kind > 0 && i.Kind < api.Kinds && has("s", 31, int64(i.S)) && has("t", 31, int64(i.T)) && has("d", 31, int64(i.D)) && has("h", 31, int64(i.Shift)) && imm
}

func isBranch(kind int) bool {
	return kind == api.JR || kind == api.JALR || kind >= api.BLTZ && kind <= api.BGTZ
}

// bars tells which exception stands in an instruction's place by what it is, and by s and t.
func (p *plain) bars(i api.Inst) fault {
	code := -1
	switch {
	case !isRight(i):
		code = 10
	case p.s.Slot && (isBranch(i.Kind) || i.Kind == api.ERET || i.Kind == api.WAIT):
		code = 10
	case p.user() && i.Kind >= api.MFC0 && i.Kind <= api.WAIT:
		code = 11
	case i.Kind == api.COP1:
		code = 11
	case i.Kind == api.SYSCALL:
		code = 8
	case i.Kind == api.BREAK:
		code = 9
	default:
		code = p.traps(i)
	}
	return fault{code: code}
}

func (p *plain) traps(i api.Inst) int {
	s, t, imm := signed(p.s.R[i.S], 32), signed(p.s.R[i.T], 32), signed(i.Imm, 16)
	over := func(n int64) int {
		if n < -1<<31 || n >= 1<<31 {
			return 12
		}
		return -1
	}
	trap := func(is bool) int {
		if is {
			return 13
		}
		return -1
	}
	switch i.Kind {
	case api.ADD:
		return over(s + t)
	case api.SUB:
		return over(s - t)
	case api.ADDI:
		return over(s + imm)
	case api.TGE:
		return trap(s >= t)
	case api.TLT:
		return trap(s < t)
	case api.TEQ:
		return trap(s == t)
	case api.TNE:
		return trap(s != t)
	}
	return -1
}

// do does an instruction but for its time; what it did stands, if it is fine.
func (p *plain) do(i api.Inst) fault {
	s, t := p.s.R[i.S], p.s.R[i.T]
	pc := p.s.PC
	if i.Kind != api.ERET {
		p.s.PC = p.s.Next
		p.s.Next = p.s.PC + 4
		p.s.Slot = isBranch(i.Kind)
	}
	va := uint32(int64(s) + signed(i.Imm, 16))
	switch {
	case isBranch(i.Kind):
		p.branch(i, pc, s, t)
	case i.Kind >= api.LB && i.Kind <= api.LHU, i.Kind == api.LL:
		return p.load(i, va)
	case i.Kind >= api.SB && i.Kind <= api.SW, i.Kind == api.SC:
		return p.store(i, va, t)
	case i.Kind >= api.MFC0 && i.Kind <= api.WAIT:
		p.system(i, t)
	case i.Kind >= api.ADDI && i.Kind <= api.LUI:
		p.s.R[i.T] = withImm(i, s)
	default:
		p.reckon(i, s, t)
	}
	return fine
}

func (p *plain) branch(i api.Inst, pc, s, t uint32) {
	switch i.Kind {
	case api.JALR:
		p.s.R[i.D] = pc + 8
	case api.JAL, api.BLTZAL, api.BGEZAL:
		p.s.R[31] = pc + 8
	}
	taken := true
	switch i.Kind {
	case api.BEQ:
		taken = s == t
	case api.BNE:
		taken = s != t
	case api.BLTZ, api.BLTZAL:
		taken = signed(s, 32) < 0
	case api.BGEZ, api.BGEZAL:
		taken = signed(s, 32) >= 0
	case api.BLEZ:
		taken = signed(s, 32) <= 0
	case api.BGTZ:
		taken = signed(s, 32) > 0
	}
	if !taken {
		return
	}
	switch i.Kind {
	case api.JR, api.JALR:
		p.s.Next = s
	case api.J, api.JAL:
		p.s.Next = (pc+4)/0x10000000*0x10000000 + i.Imm*4
	default:
		p.s.Next = uint32(int64(pc) + 4 + 4*signed(i.Imm, 16))
	}
}

func sizeOf(kind int) int {
	switch kind {
	case api.LB, api.LBU, api.SB:
		return 1
	case api.LH, api.LHU, api.SH:
		return 2
	}
	return 4
}

func (p *plain) load(i api.Inst, va uint32) fault {
	n := sizeOf(i.Kind)
	at, f := p.find(va, n, false)
	if f != fine {
		return f
	}
	v, ok := p.b.Load(at, n, p.s.Time)
	if !ok {
		return fault{code: 7}
	}
	if i.Kind == api.LB || i.Kind == api.LH {
		v = uint32(signed(v, 8*n))
	}
	p.s.R[i.T] = v
	if i.Kind == api.LL {
		p.s.Link, p.s.Linked = true, at
	}
	return fine
}

func (p *plain) store(i api.Inst, va, t uint32) fault {
	n := sizeOf(i.Kind)
	at, f := p.find(va, n, true)
	if f != fine {
		return f
	}
	if i.Kind == api.SC {
		p.s.R[i.T] = 1
		if !p.s.Link || p.s.Linked != at {
			p.s.R[i.T], p.s.Link = 0, false
			return fine
		}
	}
	if !p.b.Store(at, n, t, p.s.Time) {
		return fault{code: 7}
	}
	for stored := range uint32(n) {
		for linked := range uint32(4) {
			if at+stored == p.s.Linked+linked {
				p.s.Link = false
			}
		}
	}
	return fine
}

func (p *plain) system(i api.Inst, t uint32) {
	random := p.s.C0[9] % 8
	switch i.Kind {
	case api.MFC0:
		p.s.R[i.T] = 0
		switch i.D {
		case 1:
			p.s.R[i.T] = random
		case 0, 2, 8, 9, 10, 11, 12, 13, 14, 15:
			p.s.R[i.T] = p.s.C0[i.D]
		}
	case api.MTC0:
		p.write(i.D, t)
	case api.TLBR:
		e := p.s.Table[p.s.C0[0]%8]
		p.write(10, e.Hi)
		p.write(2, e.Lo)
	case api.TLBWI:
		p.s.Table[p.s.C0[0]%8] = api.Entry{Hi: p.s.C0[10], Lo: p.s.C0[2]}
	case api.TLBWR:
		p.s.Table[random] = api.Entry{Hi: p.s.C0[10], Lo: p.s.C0[2]}
	case api.TLBP:
		p.s.C0[0] = 0x80000000
		for n := 7; n >= 0; n-- {
			e := p.s.Table[n]
			if e.Hi/1024 == p.s.C0[10]/1024 && (isOn(e.Lo, 2) || e.Hi%256 == p.s.C0[10]%256) {
				p.s.C0[0] = uint32(n)
			}
		}
	case api.ERET:
		p.s.PC, p.s.Next, p.s.Slot, p.s.Link = p.s.C0[14], p.s.C0[14]+4, false, false
		p.s.C0[12] = turned(p.s.C0[12], 1, false)
	case api.WAIT:
		p.s.Waits = true
	}
}

// write has the bits of register n that may be written, one by one.
func (p *plain) write(n int, v uint32) {
	keep := func(places ...int) {
		p.s.C0[n] = 0
		for _, place := range places {
			p.s.C0[n] = turned(p.s.C0[n], place, isOn(v, place))
		}
	}
	upper := []int{10, 11, 12, 13, 14, 15, 16, 17, 18, 19, 20, 21, 22, 23, 24, 25, 26, 27, 28, 29, 30, 31}
	switch n {
	case 0:
		keep(0, 1, 2)
	case 2:
		keep(append(upper, 0, 1, 2)...)
	case 10:
		keep(append(upper, 0, 1, 2, 3, 4, 5, 6, 7)...)
	case 12:
		keep(0, 1, 4, 8, 9, 10, 11, 12, 13, 14, 15)
	case 9, 11, 14:
		p.s.C0[n] = v
		if n == 11 {
			p.s.C0[13] = turned(p.s.C0[13], 15, false)
		}
	case 13:
		p.s.C0[13] = turned(turned(p.s.C0[13], 8, isOn(v, 8)), 9, isOn(v, 9))
	}
}

func oneIf(is bool) uint32 {
	if is {
		return 1
	}
	return 0
}

// bitwise makes a word of two, bit by bit.
func bitwise(a, b uint32, is func(a, b bool) bool) uint32 {
	v := uint32(0)
	for n := range 32 {
		v = turned(v, n, is(isOn(a, n), isOn(b, n)))
	}
	return v
}

func withImm(i api.Inst, s uint32) uint32 {
	imm := signed(i.Imm, 16)
	switch i.Kind {
	case api.ADDI, api.ADDIU:
		return uint32(int64(s) + imm)
	case api.SLTI:
		return oneIf(signed(s, 32) < imm)
	case api.SLTIU:
		return oneIf(s < uint32(imm))
	case api.ANDI:
		return bitwise(s, i.Imm, func(a, b bool) bool { return a && b })
	case api.ORI:
		return bitwise(s, i.Imm, func(a, b bool) bool { return a || b })
	case api.XORI:
		return bitwise(s, i.Imm, func(a, b bool) bool { return a != b })
	}
	return i.Imm * 65536
}

// reckon does what goes to D, HI or LO.
func (p *plain) reckon(i api.Inst, s, t uint32) {
	a, b := signed(s, 32), signed(t, 32)
	switch i.Kind {
	case api.MTHI:
		p.s.Hi = s
	case api.MTLO:
		p.s.Lo = s
	case api.MULT:
		p.s.Hi, p.s.Lo = uint32(uint64(a*b)>>32), uint32(a*b)
	case api.MULTU:
		p.s.Hi, p.s.Lo = bits.Mul32(s, t)
	case api.DIV:
		p.s.Lo, p.s.Hi = 0xffffffff, s
		if b != 0 {
			p.s.Lo, p.s.Hi = uint32(a/b), uint32(a%b)
		}
	case api.DIVU:
		p.s.Lo, p.s.Hi = 0xffffffff, s
		if t != 0 {
			p.s.Lo, p.s.Hi = bits.Div32(0, s, t)
		}
	case api.MOVZ, api.MOVN:
		if t == 0 && i.Kind == api.MOVZ || t != 0 && i.Kind == api.MOVN {
			p.s.R[i.D] = s
		}
	case api.SYNC, api.CACHE, api.PREF:
	default:
		p.s.R[i.D] = p.number(i, s, t)
	}
}

func (p *plain) number(i api.Inst, s, t uint32) uint32 {
	a, b := signed(s, 32), signed(t, 32)
	switch i.Kind {
	case api.SLL:
		return uint32(uint64(t) << i.Shift)
	case api.SRL:
		return uint32(uint64(t) >> i.Shift)
	case api.SRA:
		return uint32(b >> i.Shift)
	case api.SLLV:
		return uint32(uint64(t) << (s % 32))
	case api.SRLV:
		return uint32(uint64(t) >> (s % 32))
	case api.SRAV:
		return uint32(b >> (s % 32))
	case api.MFHI:
		return p.s.Hi
	case api.MFLO:
		return p.s.Lo
	case api.ADD, api.ADDU:
		return uint32(a + b)
	case api.SUB, api.SUBU:
		return uint32(a - b)
	case api.AND:
		return bitwise(s, t, func(a, b bool) bool { return a && b })
	case api.OR:
		return bitwise(s, t, func(a, b bool) bool { return a || b })
	case api.XOR:
		return bitwise(s, t, func(a, b bool) bool { return a != b })
	case api.NOR:
		return bitwise(s, t, func(a, b bool) bool { return !a && !b })
	case api.SLT:
		return oneIf(a < b)
	case api.SLTU:
		return oneIf(s < t)
	case api.MUL:
		return uint32(a * b)
	}
	return leading(s, i.Kind == api.CLO)
}

// leading counts the bits like that at the top.
func leading(v uint32, like bool) uint32 {
	count := uint32(0)
	for n := 31; n >= 0 && isOn(v, n) == like; n-- {
		count++
	}
	return count
}
