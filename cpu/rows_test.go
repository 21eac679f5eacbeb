package cpu

import (
	"math"
	"math/rand"
	"strings"
	"testing"

	"pianola/api"
	"pianola/bus"
	"pianola/decode"
)

// P16.1 to P16.4: long rows of steps over memory of any bytes.
func TestAnyBytes(t *testing.T) {
	for seed := range int64(60) {
		random := rand.New(rand.NewSource(seed))
		row := make([]byte, 4096)
		random.Read(row)
		x := newBench(t, func(s *api.State, b *bus.Bus) { b.Ram().Put(0, row) })
		for n := range 400 {
			x.step()
			if n%7 == 0 {
				pc := open + random.Uint32()%4096&^3
				x.sets(func(s *api.State) { s.PC, s.Next, s.Slot, s.Waits = pc, pc+4, false, false })
			}
		}
		x.ends("any bytes")
	}
}

// P16.1 to P16.4: long rows of steps over programs that mostly do something, in any State, with devices that come due, and bytes that come.
func TestLongRows(t *testing.T) {
	codes := map[int]int{}
	kindsDone := map[int]int{}
	for seed := range int64(120) {
		random := rand.New(rand.NewSource(seed))
		image := anyProgram(random)
		x := sizedBench(t, []int{4, 2, 1}[seed%3], func(s *api.State, b *bus.Bus) {
			b.Ram().Put(0, image[:b.Ram().Size()])
			put(t, b, linesAt+4, 0x3e, 0)
		})
		x.sets(func(s *api.State) { s.C0[12] = 0xff01 })
		x.refresh(random)
		for n := range 1500 {
			if w, ok := x.b.Ram().Load(x.s.PC-open, 4); ok {
				kindsDone[decode.Of(w).Kind]++
			}
			code := x.step()
			codes[code]++
			switch {
			case n%40 == 0, code == -2 && random.Intn(8) == 0:
				x.refresh(random)
			case code == -2:
				later := int64(1 + random.Intn(50))
				x.sets(func(s *api.State) { s.Time += later })
			}
			switch random.Intn(200) {
			case 0:
				b := byte(random.Uint32())
				x.b.Type(b)
				x.plain.b.Type(b)
			case 1:
				x.sets(func(s *api.State) { s.Waits = false })
			}
		}
		x.ends("a long row")
	}
	for code := -2; code <= 13; code++ {
		if codes[code] < 30 {
			t.Errorf("answer %d: only %d times", code, codes[code])
		}
	}
	for _, kind := range kinds() {
		if kindsDone[kind] < 200 {
			t.Errorf("kind %d: only %d times", kind, kindsDone[kind])
		}
	}
}

// anyProgram is memory that holds right instructions, some odd words, and at the places of exceptions what leads on.
func anyProgram(random *rand.Rand) []byte {
	var out []byte
	put := func(i api.Inst) {
		w, _ := decode.Word(i)
		if random.Intn(60) == 0 {
			w = random.Uint32()
		}
		out = append(out, byte(w>>24), byte(w>>16), byte(w>>8), byte(w))
	}
	for len(out) < 4096 {
		kind := 1 + random.Intn(api.Kinds-1)
		i := anyInst(random, kind)
		imm := strings.Contains(fields(kind), "i")
		switch {
		case imm && kind >= api.LB:
			i.Imm = uint32(random.Intn(24)-8) & 0xffff
			if random.Intn(3) == 0 {
				i.Imm &^= 3
			}
		case kind == api.J, kind == api.JAL:
			i.Imm = uint32(random.Intn(1024))
		case imm && isBranch(kind):
			i.Imm = uint32(random.Intn(60)-20) & 0xffff
		case kind == api.MFC0, kind == api.MTC0:
			i.D = random.Intn(16)
		}
		put(i)
	}
	behind := []api.Inst{std(api.MFC0, 0, 26, 14), sti(api.ADDIU, 26, 26, 4), std(api.MTC0, 0, 26, 14), std(api.TLBWR, 0, 0, 0), std(api.ERET, 0, 0, 0)}
	for _, at := range []int{0, 0x180} {
		for n, i := range behind {
			w, _ := decode.Word(i)
			copy(out[at+n*4:], []byte{byte(w >> 24), byte(w >> 16), byte(w >> 8), byte(w)})
		}
	}
	return out
}

// refresh has another State that goes on anywhere, with the same time.
func (x *bench) refresh(random *rand.Rand) {
	s := anyState(random, x.s)
	size := x.b.Ram().Size()
	s.PC = open + random.Uint32()%size&^3
	s.C0[14] = open + random.Uint32()%size&^3
	s.Next, s.Slot, s.Waits, s.Time = s.PC+4, false, false, x.s.Time
	switch random.Intn(12) {
	case 0:
		s.PC = random.Uint32()
	case 1:
		s.PC += uint32(random.Intn(4))
	case 2:
		s.Next, s.Slot = open+random.Uint32()%size&^3, true
	case 3:
		s.PC -= open
	case 4:
		s.PC = 0xbf000000 + random.Uint32()%0x180&^3
	}
	if random.Intn(3) > 0 {
		s.C0[12] &^= um
	}
	for n := range s.Table {
		page := random.Uint32() % 6
		s.Table[n] = api.Entry{Hi: page*1024 + random.Uint32()%4, Lo: random.Uint32()%5*1024 + random.Uint32()%8}
	}
	s.C0[10] = random.Uint32() % 4
	x.s, x.plain.s = s, s
}

// P16.3: rows of a few instructions out of those that link, store, return and wait: each row of four.
func TestShortRows(t *testing.T) {
	few := []api.Inst{sti(api.LL, 1, 2, 0), sti(api.LL, 3, 2, 4), sti(api.SC, 1, 4, 0), sti(api.SC, 3, 4, 4), sti(api.SW, 1, 1, 4), sti(api.SB, 1, 1, 3), sti(api.SH, 3, 1, 0), std(api.ERET, 0, 0, 0), std(api.SYSCALL, 0, 0, 0), sti(api.BEQ, 0, 0, 2), std(api.WAIT, 0, 0, 0), std(api.MTC0, 0, 1, api.Status)}
	rows := len(few) * len(few) * len(few) * len(few)
	for row := range rows {
		x := sizedBench(t, 1, func(s *api.State, b *bus.Bus) {
			s.R[1], s.R[3], s.R[4] = 0x80000200, 0xa0000200, 9
			s.C0[14] = 0x80000300
		})
		for rest := row; rest > 0; rest /= len(few) {
			x.exec(few[rest%len(few)])
		}
		if row%16 == 0 {
			x.ends("a short row")
		}
	}
}

// R1: whatever a State has in it, each call ends, and none panics; register 0 is 0 behind what is done.
func TestOddStates(t *testing.T) {
	random := rand.New(rand.NewSource(99))
	times := []int64{0, -1, math.MinInt64, math.MaxInt64, 1 << 40, 1 << 41, -1 << 41}
	for n := range 3000 {
		b := newBus(1 + n%4)
		s := api.State{Time: times[n%len(times)], Slot: n%2 == 0, Link: n%3 == 0, Waits: n%5 == 0}
		for k := range s.R {
			s.R[k] = random.Uint32() >> random.Intn(32)
		}
		for k := range s.C0 {
			s.C0[k] = random.Uint32() >> random.Intn(32)
		}
		for k := range s.Table {
			s.Table[k] = api.Entry{Hi: random.Uint32(), Lo: random.Uint32()}
		}
		s.PC, s.Next, s.Linked = random.Uint32(), random.Uint32(), random.Uint32()
		put(t, b, timer0At, 3, 0)
		for range 5 {
			if got := Step(&s, b); got < -2 || got > 13 {
				t.Fatalf("Step: %d", got)
			}
			Fetch(&s, b)
			i := decode.Of(random.Uint32())
			if got := Exec(&s, b, i); got < -1 || got > 13 || s.R[0] != 0 {
				t.Fatalf("Exec(%v): %d, R0 %#x", i, got, s.R[0])
			}
		}
	}
}
