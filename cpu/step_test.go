package cpu

import (
	"slices"
	"testing"

	"pianola/api"
	"pianola/bus"
)

// count is ADDIU that has R[n] one more, so that it is seen whether it was done.
func count(n int) api.Inst { return sti(api.ADDIU, n, n, 1) }

func (x *bench) steps(want ...int) {
	x.t.Helper()
	for n, code := range want {
		if got := x.step(); got != code {
			x.t.Fatalf("step %d: %d, want %d", n, got, code)
		}
	}
}

// P16.1: with nothing due a step is the instruction at PC.
func TestNothingDue(t *testing.T) {
	x := newBench(t, func(s *api.State, b *bus.Bus) {
		program(t, b, 0x400, sti(api.ADDIU, 0, 1, 5))
		crowded(s)
	})
	want := x.s
	x.steps(-1)
	want.R[1], want.PC, want.Next, want.Time = 5, reset+4, reset+8, 78
	want.C0[9] = 0x9999999a
	same(t, "behind a step", x.s, want)
	x.ends("a step")
}

// P16.1: what is due at Time, or was ahead of it, is done; what is due behind it stays.
func TestDue(t *testing.T) {
	for late := int64(-3); late <= 70; late++ {
		x := newBench(t, func(s *api.State, b *bus.Bus) {
			program(t, b, 0x400, count(1))
			put(t, b, timer0At+4, 30, 70)
			put(t, b, timer0At, 1, 70)
			put(t, b, timer1At+4, 30, 70)
			put(t, b, timer1At, 3, 70)
			put(t, b, uartAt, 'A', 92)
			put(t, b, uartAt, 'B', 92)
			put(t, b, linesAt+4, 0x3e, 0)
			s.Time = 100 + late
		})
		x.steps(-1)
		fired, events, line := uint32(0), 3, uint32(0)
		if late >= 0 {
			fired, line = 1, devices
			events = 2 // the timer that comes again, and the second byte
		}
		if late >= 8 {
			events = 1
		}
		if got := wordAt(t, x.b, timer0At+8); got != fired || len(x.b.Events()) != events || x.s.C0[13] != line || x.s.R[1] != 1 || x.s.Time != 101+late {
			t.Errorf("%d late: status %d, events %v, Cause %#x, R1 %d, Time %d", late, got, x.b.Events(), x.s.C0[13], x.s.R[1], x.s.Time)
		}
		x.ends("what is due")
	}
}

// P16.1: what is due is done ahead of the Fetch: the mover and the disk bring the very instruction that is done.
func TestDueAheadOfFetch(t *testing.T) {
	for _, now := range []int64{1, 2, 3, 40} {
		x := newBench(t, func(s *api.State, b *bus.Bus) {
			program(t, b, 0x400, count(1))
			program(t, b, 0x800, count(2))
			put(t, b, dmaAt, 0x800, 0)
			put(t, b, dmaAt+4, 0x400, 0)
			put(t, b, dmaAt+8, 4, 0)
			put(t, b, dmaAt+12, 1, 0) // due at 2
			s.Time = now
		})
		x.steps(-1)
		if moved := x.s.R[2] == 1; moved != (now >= 2) || moved == (x.s.R[1] == 1) {
			t.Errorf("mover, at %d: R1 %d, R2 %d", now, x.s.R[1], x.s.R[2])
		}
		x.ends("the mover")
	}
	for _, now := range []int64{31, 32, 33} {
		x := newBench(t, func(s *api.State, b *bus.Bus) {
			program(t, b, 0x400, count(1))
			put(t, b, diskAt+4, 0x400, 0)
			put(t, b, diskAt+8, 1, 0)
			s.Time = now
		})
		x.step()
		if read := x.s.R[1] == 0; read != (now >= 32) {
			t.Errorf("disk, at %d: R1 %d", now, x.s.R[1])
		}
		x.ends("the disk")
	}
}

// P16.1: a line that goes up by what is due is taken in that very step, and wakes in that very step.
func TestLineTakenAtOnce(t *testing.T) {
	for _, waits := range []bool{false, true} {
		for now := int64(8); now <= 12; now++ {
			x := newBench(t, func(s *api.State, b *bus.Bus) {
				program(t, b, 0x400, count(1))
				put(t, b, linesAt+4, 1<<1, 0)
				put(t, b, timer0At+4, 10, 0)
				put(t, b, timer0At, 1, 0)
				s.Waits, s.Time = waits, now
				s.C0[12] = devices | ie
			})
			want := -1
			if now >= 10 {
				want = 0
			} else if waits {
				want = -2
			}
			x.steps(want)
			if (x.s.R[1] == 1) != (want == -1) || (x.s.PC == vector) != (want == 0) || x.s.Waits != (want == -2) {
				t.Errorf("at %d, waits %v: %d, R1 %d, PC %#x", now, waits, want, x.s.R[1], x.s.PC)
			}
			x.ends("a line that goes up")
		}
	}
}

// P16.1: the line is as the devices have it, not as Cause had it ahead of the step.
func TestLineAhead(t *testing.T) {
	for _, typed := range []bool{false, true} {
		for _, was := range []uint32{0, devices} {
			x := newBench(t, func(s *api.State, b *bus.Bus) {
				program(t, b, 0x400, count(1))
				put(t, b, linesAt+4, 1<<3, 0)
				put(t, b, uartAt+8, 1, 0)
				if typed {
					b.Type('k')
				}
				s.C0[12], s.C0[13] = devices|ie, was
			})
			want, cause := -1, uint32(0)
			if typed {
				want, cause = 0, devices
			}
			x.steps(want)
			if x.s.C0[13] != cause || (x.s.R[1] == 0) != typed {
				t.Errorf("typed %v, Cause %#x ahead: %d, Cause %#x", typed, was, want, x.s.C0[13])
			}
			x.ends("the line ahead")
		}
	}
}

// P16.1: it waits on till an interrupt asks that is not masked; neither time nor Count goes on, but what is due is done.
func TestRests(t *testing.T) {
	x := newBench(t, func(s *api.State, b *bus.Bus) {
		program(t, b, 0x400, count(1))
		crowded(s)
		s.Waits, s.Slot, s.Next = true, true, 0x80000900
		s.C0[12] = 0xfb01
		s.C0[13] |= devices // which no device asks for
		put(t, b, timer0At+4, 7, 70)
		put(t, b, timer0At, 1, 70) // due at 77
		put(t, b, timer1At+4, 8, 70)
		put(t, b, timer1At, 1, 70)
	})
	want := x.s
	want.C0[13] = 0x07000054
	for range 3 {
		x.steps(-2)
		same(t, "behind a rest", x.s, want)
		if events := x.b.Events(); len(events) != 1 || events[0].Device != 2 {
			t.Fatalf("events behind a rest: %v", events)
		}
	}
	x.ends("rests")
	// The line is up, and masked; then it is not.
	put(t, x.b, linesAt+4, 2, 0)
	put(t, x.plain.b, linesAt+4, 2, 0)
	want.C0[13] |= devices
	x.steps(-2)
	same(t, "behind a rest with the line up", x.s, want)
	x.s.C0[12] |= devices
	x.plain.s.C0[12] |= devices
	x.steps(0)
	x.ends("awake")
}

// P16.1: each line by each that may be enabled, waiting and not, enabled as a whole and not, within an exception and not, in a slot and not, as a user and not.
func TestInterrupts(t *testing.T) {
	for up := range 9 { // 8: none
		for mask := range 10 { // 8: none, 9: all
			for flags := range 32 {
				x := newBench(t, func(s *api.State, b *bus.Bus) {
					crowded(s)
					program(t, b, 0x400, sti(api.SW, 0, 1, 0x800))
					s.Table[5] = api.Entry{Hi: 0x800, Lo: 0x800 | api.V | api.D | api.G}
					s.Table[6] = api.Entry{Hi: 0x400, Lo: 0x400 | api.V | api.G}
					put(t, b, linesAt+4, 0x3e, 0)
					s.C0[12], s.C0[13] = 0, 0x7f
					switch {
					case up == 2:
						put(t, b, uartAt+8, 1, 0)
						b.Type('k')
					case up < 8:
						s.C0[13] += 1 << (8 + up)
					}
					switch {
					case mask < 8:
						s.C0[12] += 1 << (8 + mask)
					case mask == 9:
						s.C0[12] += 0xff00
					}
					s.Waits = flags&1 != 0
					s.C0[12] += uint32(flags >> 1 & 1 * ie)
					s.C0[12] += uint32(flags >> 2 & 1 * exl)
					s.C0[12] += uint32(flags >> 4 & 1 * um)
					s.PC, s.Next = 0x400, 0x404
					if s.Slot = flags&8 != 0; s.Slot {
						s.Next = 0x900
					}
				})
				interrupts(t, x, up, up < 8 && (mask == up || mask == 9), flags)
			}
		}
	}
}

// interrupts takes one step, of which it is known whether an interrupt is pending.
func interrupts(t *testing.T, x *bench, up int, pending bool, flags int) {
	t.Helper()
	waits, slot := flags&1 != 0, flags&8 != 0
	taken := pending && flags&2 != 0 && flags&4 == 0
	want := x.s
	want.Waits = waits && !pending
	if up == 2 {
		want.C0[13] += devices
	}
	code := -1
	switch {
	case waits && !pending:
		code = -2
	case taken:
		code = 0
		want.PC, want.Next, want.Slot = vector, vector+4, false
		want.C0[12] += exl
		want.C0[13] -= 0x7c
		want.C0[14] = 0x400
		if slot {
			want.C0[14] = 0x3fc
			want.C0[13] += inSlot
		}
	default:
		want.PC, want.Next, want.Slot = want.Next, want.Next+4, false
	}
	if code != -2 {
		want.Time, want.C0[9] = 78, 0x9999999a
	}
	x.steps(code)
	same(t, "behind a step with an interrupt", x.s, want)
	stored := uint32(0)
	if code == -1 {
		stored = x.s.R[1]
	}
	if v := wordAt(t, x.b, 0x800); v != stored {
		t.Fatalf("up %d, flags %d: %#x is stored", up, flags, v)
	}
	x.ends("an interrupt")
}

// P16.1: an interrupt is taken ahead of the Fetch: nothing of it is seen, and no byte is taken from the line by it.
func TestInterruptAheadOfFetch(t *testing.T) {
	for _, pc := range []uint32{0x80000402, 0x5000, 0x80001000, 0xbf0000c0} {
		x := newBench(t, func(s *api.State, b *bus.Bus) {
			crowded(s)
			b.Type('k')
			s.PC, s.Next = pc, pc+4
			s.C0[12], s.C0[13] = 0x101, 0x100
		})
		want := x.s
		x.steps(0)
		want.PC, want.Next, want.Time = vector, vector+4, 78
		want.C0[9], want.C0[12], want.C0[14] = 0x9999999a, 0x103, pc
		same(t, "behind an interrupt", x.s, want)
		if v := wordAt(t, x.b, uartAt); v != 'k' {
			t.Errorf("PC %#x: %#x is on the line", pc, v)
		}
	}
}

// P16.1, P16.3: WAIT and what wakes from it: an interrupt that is taken, and one that is only pending.
func TestWait(t *testing.T) {
	for _, status := range []uint32{clock, clock | ie, clock | ie | exl} {
		x := newBench(t, func(s *api.State, b *bus.Bus) {
			program(t, b, 0x400, api.Inst{Kind: api.WAIT}, count(1))
			s.C0[12], s.C0[11] = status, 3
		})
		x.steps(-1, -2, -2)
		if !x.s.Waits || x.s.Time != 1 || x.s.C0[9] != 1 || x.s.PC != reset+4 {
			t.Fatalf("it waits: %v", x.s)
		}
		for _, s := range []*api.State{&x.s, &x.plain.s} {
			s.Time, s.C0[9], s.C0[13] = 3, 3, clock
		}
		want := -1
		if status == clock|ie {
			want = 0
		}
		x.steps(want)
		if x.s.Waits || x.s.Time != 4 || (x.s.R[1] == 1) != (want == -1) || want == 0 && x.s.C0[14] != reset+4 {
			t.Errorf("Status %#x: %v", status, x.s)
		}
		x.ends("WAIT")
	}
}

// P16.1: an instruction that is fetched from the line takes its byte, and the line behind the step is as it is then, also where an exception is entered.
func TestFetchTurnsLine(t *testing.T) {
	x := newBench(t, func(s *api.State, b *bus.Bus) {
		put(t, b, linesAt+4, 1<<3, 0)
		put(t, b, uartAt+8, 1, 0)
		b.Type(1) // a word that is no instruction
		b.Type(2) // SRL
		s.PC, s.Next = 0xbf0000c0, 0xbf0000c0
	})
	x.steps(api.RI)
	if x.s.C0[13] != devices|api.RI*4 {
		t.Errorf("one is left: Cause %#x", x.s.C0[13])
	}
	for _, s := range []*api.State{&x.s, &x.plain.s} {
		s.PC, s.Next = 0xbf0000c0, 0xbf0000c0
	}
	x.steps(-1)
	if x.s.C0[13] != api.RI*4 {
		t.Errorf("none is left: Cause %#x", x.s.C0[13])
	}
	x.ends("steps on the line")
}

// P16.1: Fire has its bound; a timer that came again and again for a long time does not hold a step up.
func TestLongDue(t *testing.T) {
	x := newBench(t, func(s *api.State, b *bus.Bus) {
		put(t, b, timer0At, 3, 0)
		s.Time = 1 << 41
	})
	x.steps(-1, -1)
	if events := x.b.Events(); len(events) != 1 || events[0].At != 513 {
		t.Errorf("events: %v", events)
	}
}

// P16.1, P16.2, P16.3, R1: a nil State and a nil Bus: zero values, and nothing is done.
func TestNil(t *testing.T) {
	set := func(s *api.State, b *bus.Bus) {
		put(t, b, linesAt+4, 2, 0)
		put(t, b, timer0At, 1, 0)
		s.Time = 5
	}
	x := newBench(t, set)
	for _, i := range []api.Inst{{}, count(1), {Kind: api.WAIT}, sti(api.SW, 0, 0, 0), {Kind: -1}} {
		if got := []int{Exec(nil, nil, i), Exec(&x.s, nil, i), Exec(nil, x.b, i)}; !slices.Equal(got, []int{0, 0, 0}) {
			t.Errorf("Exec(%v): %v", i, got)
		}
	}
	if got := []int{Step(nil, nil), Step(&x.s, nil), Step(nil, x.b)}; !slices.Equal(got, []int{0, 0, 0}) {
		t.Errorf("Step: %v", got)
	}
	x.s.PC, x.plain.s.PC = 2, 2
	for _, to := range []*api.State{nil, &x.s} {
		for _, b := range []*bus.Bus{nil, x.b} {
			if to != nil && b != nil {
				continue
			}
			if i, code, refill := Fetch(to, b); i != (api.Inst{}) || code != 0 || refill {
				t.Errorf("Fetch: %v, %d, %v", i, code, refill)
			}
		}
	}
	x.ends("nil")
}
