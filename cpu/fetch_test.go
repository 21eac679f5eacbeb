package cpu

import (
	"testing"

	"pianola/api"
	"pianola/bus"
	"pianola/decode"
)

// place is where an instruction is to be fetched, and what comes of it.
type place struct {
	pc     uint32
	code   int
	refill bool
	word   uint32
}

// spread has words of its own in memory of one page and entries of the table for some pages.
func spread(s *api.State, b *bus.Bus) {
	crowded(s)
	s.C0[10] = 0xaaaaa807
	for at := uint32(0); at < b.Ram().Size(); at += 4 {
		b.Ram().Store(at, 4, 0x24210000+at) // ADDIU 1, 1, at
	}
	s.Table = [8]api.Entry{
		{Hi: 0x00000407, Lo: 1},                 // the space's, lies at 0
		{Hi: 0x00000800, Lo: 5},                 // another space's, but of all
		{Hi: 0x00000c08, Lo: 3},                 // another space's
		{Hi: 0x00001007, Lo: 6},                 // without V
		{Hi: 0x7ffffc07, Lo: 0x1f000000 | 7},    // the devices
		{Hi: 0xc0000007, Lo: 0x00000400 | 7},    // where no memory lies
		{Hi: 0xfffffc07, Lo: 3},                 // the last page
		{Hi: 0x80000007, Lo: 0x00000400 | 0x07}, // of an address that is not mapped
	}
}

// places are those in each segment: not as a user.
func places() []place {
	return []place{
		{0x80000000, -1, false, 0x24210000}, {0x80000004, -1, false, 0x24210004}, {0x800003fc, -1, false, 0x242103fc}, {0x80000400, api.IBE, false, 0}, {0x800003fe, api.AdEL, false, 0}, {0x80000001, api.AdEL, false, 0}, {0x80000002, api.AdEL, false, 0}, {0x80000003, api.AdEL, false, 0},
		{0xa0000000, -1, false, 0x24210000}, {0xa00003fc, -1, false, 0x242103fc}, {0xa0000400, api.IBE, false, 0}, {0x9ffffffc, api.IBE, false, 0}, {0xbffffffc, api.IBE, false, 0}, {0xbfffffff, api.AdEL, false, 0},
		{0x400, -1, false, 0x24210000}, {0x7fc, -1, false, 0x242103fc}, {0x7fe, api.AdEL, false, 0}, {0x404, -1, false, 0x24210004}, {0x800, -1, false, 0x24210000}, {0xbf8, -1, false, 0x242103f8}, {0xc00, api.TLBL, true, 0}, {0x1000, api.TLBL, false, 0}, {0x13fc, api.TLBL, false, 0}, {0x1400, api.TLBL, true, 0}, {0, api.TLBL, true, 0}, {0x3fc, api.TLBL, true, 0}, {1, api.AdEL, false, 0}, {0x7ffff800, api.TLBL, true, 0},
		{0x7ffffc00, -1, false, 0}, {0x7ffffc08, -1, false, 77}, {0x7ffffc10, api.IBE, false, 0}, {0x7ffffcc0, -1, false, 0x24}, {0x7fffffff, api.AdEL, false, 0}, {0x7ffffffc, api.IBE, false, 0},
		{0xbf000000, -1, false, 0}, {0xbf000008, -1, false, 77}, {0xbf00000c, -1, false, 0}, {0xbf000010, api.IBE, false, 0}, {0xbf000044, -1, false, 0x01020304}, {0xbf00004c, api.IBE, false, 0}, {0xbf0000c0, -1, false, 0x24}, {0xbf000102, api.AdEL, false, 0}, {0xbf000180, api.IBE, false, 0}, {0x9f000044, -1, false, 0x01020304},
		{0xc0000000, api.IBE, false, 0}, {0xc0000400, api.TLBL, true, 0}, {0xc0000002, api.AdEL, false, 0}, {0xfffffc00, -1, false, 0x24210000}, {0xfffffffc, -1, false, 0x242103fc}, {0xfffffffd, api.AdEL, false, 0}, {0xfffff800, api.TLBL, true, 0},
	}
}

// P16.2: Fetch in each segment, as a user and not, within an exception and not: the answers, what Bad tells, and nothing else.
func TestFetch(t *testing.T) {
	for _, c := range places() {
		for _, status := range []uint32{0, exl, um, um | exl} {
			for _, slot := range []bool{false, true} {
				want := c
				if status == um && c.pc >= 0x80000000 {
					want = place{c.pc, api.AdEL, false, 0}
				}
				fetches(t, want, status, slot)
			}
		}
	}
}

func fetches(t *testing.T, c place, status uint32, slot bool) {
	t.Helper()
	set := func(s *api.State, b *bus.Bus) {
		spread(s, b)
		put(t, b, timer0At+4, 0x01020304, 0)
		b.Type(0x24)
		s.PC, s.Next, s.Slot, s.C0[12] = c.pc, 0x80000100, slot, status
	}
	x := sizedBench(t, 1, set)
	want := x.s
	i, code, refill := x.fetch()
	inst := api.Inst{}
	if c.code < 0 {
		inst = decode.Of(c.word)
	}
	if i != inst || code != c.code || refill != c.refill {
		t.Fatalf("Fetch at %#x, Status %#x: %v, %d, %v", c.pc, status, i, code, refill)
	}
	switch c.code {
	case api.AdEL:
		want.C0[8] = c.pc
	case api.TLBL:
		want.C0[8] = c.pc
		want.C0[10] = c.pc&0xfffffc00 | 7
	}
	same(t, "behind Fetch", x.s, want)
	x.ends("Fetch")
	// The same by Step: the exception is entered.
	x = sizedBench(t, 1, set)
	if c.code < 0 {
		x.step()
		return
	}
	x.steps(c.code)
	want.Time, want.C0[9] = 78, 0x9999999a
	want.C0[13] = 0x07000000 + uint32(c.code)*4
	want.PC = vector
	if status&exl == 0 {
		want.C0[14] = c.pc
		if slot {
			want.C0[14] = c.pc - 4
			want.C0[13] += inSlot
		}
		if c.refill {
			want.PC = 0x80000000
		}
	}
	want.Next, want.Slot, want.C0[12] = want.PC+4, false, status|exl
	same(t, "behind Step", x.s, want)
	x.ends("Step")
}

// P16.2: memory's very end, of each size, by an address that is not mapped and through the table.
func TestFetchAtEnd(t *testing.T) {
	for pages := 1; pages <= 64; pages++ {
		size := uint32(pages) * 1024
		x := sizedBench(t, pages, func(s *api.State, b *bus.Bus) {
			program(t, b, size-4, count(9))
			s.Table[7] = api.Entry{Hi: 0x12345400, Lo: size - 1024 | api.V | api.G}
			s.Table[6] = api.Entry{Hi: 0x12345800, Lo: size | api.V | api.G}
		})
		for _, c := range []struct {
			pc   uint32
			code int
		}{{open + size - 4, -1}, {open + size, api.IBE}, {0x123457fc, -1}, {0x12345800, api.IBE}} {
			x.s.PC, x.plain.s.PC = c.pc, c.pc
			if i, code, _ := x.fetch(); code != c.code || (i == count(9)) != (code == -1) {
				t.Errorf("%d pages, PC %#x: %v, %d", pages, c.pc, i, code)
			}
		}
		x.ends("the end")
	}
}

// P16.2: Fetch gives each word as decode reads it, also one that is no instruction: that is no exception of Fetch's, but RI of the step.
func TestFetchWords(t *testing.T) {
	x := newBench(t, crowdedAlone)
	for op := range uint32(64) {
		for _, low := range []uint32{0, 1, 2, 0x3f, 0x03e00008, 0x0085001b, 0x02000018, 0x0211f820} {
			w := op<<26 | low
			for _, b := range []*bus.Bus{x.b, x.plain.b} {
				b.Ram().Store(0x400, 4, w)
			}
			i, code, refill := x.fetch()
			if i != decode.Of(w) || code != -1 || refill {
				t.Fatalf("Fetch of %#x: %v, %d, %v", w, i, code, refill)
			}
			if i.Kind != api.Reserved {
				continue
			}
			was := x.s
			x.steps(api.RI)
			if x.s.C0[14] != reset || x.s.C0[8] != was.C0[8] {
				t.Fatalf("%#x: EPC %#x, BadVAddr %#x", w, x.s.C0[14], x.s.C0[8])
			}
			x.s, x.plain.s = was, was
		}
	}
	x.ends("words")
}

func crowdedAlone(s *api.State, b *bus.Bus) { crowded(s) }
