package cpu

import (
	"testing"

	"pianola/api"
	"pianola/bus"
)

func loadKinds() []int { return []int{api.LB, api.LBU, api.LH, api.LHU, api.LW, api.LL} }

func storeKinds() []int { return []int{api.SB, api.SH, api.SW, api.SC} }

// memoryKinds are loads and stores, SC with the link that it needs.
func memoryKinds() []int { return append(loadKinds(), storeKinds()...) }

// sets turns the same in both States.
func (x *bench) sets(set func(s *api.State)) {
	set(&x.s)
	set(&x.plain.s)
}

// P16.3: loads of each size, signed and not, at each alignment, with each sign of Imm, by numbers that are known.
func TestLoads(t *testing.T) {
	row := []byte{0x81, 0x02, 0x7f, 0xff, 0x80, 0x00, 0xfe, 0x01}
	number := func(at, n int) uint32 {
		v := uint32(0)
		for _, b := range row[at : at+n] {
			v = v*256 + uint32(b)
		}
		return v
	}
	for at := range 8 {
		for _, imm := range []int32{0, 1, 2, 3, 4, 5, -1, -2, -3, -4, 0x7fff, -0x8000, 0x7ffe, -0x7fff} {
			for kind, want := range map[int]func() (uint32, bool){
				api.LB:  func() (uint32, bool) { return uint32(int32(int8(row[at]))), true },
				api.LBU: func() (uint32, bool) { return uint32(row[at]), true },
				api.LH:  func() (uint32, bool) { return uint32(int32(int16(number(at&^1, 2)))), at%2 == 0 },
				api.LHU: func() (uint32, bool) { return number(at&^1, 2), at%2 == 0 },
				api.LW:  func() (uint32, bool) { return number(at&^3, 4), at%4 == 0 },
				api.LL:  func() (uint32, bool) { return number(at&^3, 4), at%4 == 0 },
			} {
				x := newBench(t, func(s *api.State, b *bus.Bus) {
					crowded(s)
					b.Ram().Put(0x800, row)
					s.R[1] = uint32(int64(0x80000800) + int64(at) - int64(imm))
				})
				was := x.s
				code := x.exec(sti(kind, 1, 2, uint32(imm)))
				v, ok := want()
				if ok && (code != -1 || x.s.R[2] != v) {
					t.Errorf("load %d at %d, Imm %d: %d, %#x, want %#x", kind, at, imm, code, x.s.R[2], v)
				}
				if !ok {
					was.C0[8] = 0x80000800 + uint32(at)
					same(t, "behind AdEL", x.s, entered(was, api.AdEL, false))
				}
				if link := kind == api.LL && ok; link && (!x.s.Link || x.s.Linked != 0x800+uint32(at)) || !link && x.s.Linked != was.Linked {
					t.Errorf("load %d at %d: Linked %#x", kind, at, x.s.Linked)
				}
				x.ends("a load")
			}
		}
	}
}

// P16.3: stores of each size at each alignment: the bytes that are known, and no others.
func TestStores(t *testing.T) {
	for at := range uint32(8) {
		for kind, n := range map[int]uint32{api.SB: 1, api.SH: 2, api.SW: 4, api.SC: 4} {
			for _, imm := range []uint32{0, 3, 0x7fff, 0x8000, 0xffff} {
				x := newBench(t, func(s *api.State, b *bus.Bus) {
					crowded(s)
					b.Ram().Put(0x7fc, []byte{1, 2, 3, 4, 5, 6, 7, 8, 9, 10, 11, 12, 13, 14, 15, 16})
					s.R[1] = 0x80000800 + at - uint32(int16(imm))
					s.R[2] = 0xa1b2c3d4
					s.Linked = 0x800 + at
				})
				was := x.s
				code := x.exec(sti(kind, 1, 2, imm))
				want := []byte{1, 2, 3, 4, 5, 6, 7, 8, 9, 10, 11, 12, 13, 14, 15, 16}
				if at%n == 0 {
					copy(want[4+at:], []byte{0xa1, 0xb2, 0xc3, 0xd4}[4-n:])
					if code != -1 || (kind == api.SC) != (x.s.R[2] == 1) || x.s.Link {
						t.Errorf("store %d at %d: %d, R2 %#x, Link %v", kind, at, code, x.s.R[2], x.s.Link)
					}
				} else {
					was.C0[8] = 0x80000800 + at
					same(t, "behind AdES", x.s, entered(was, api.AdES, false))
				}
				if got, _ := x.b.Ram().Bytes(0x7fc, 16); string(got) != string(want) {
					t.Errorf("store %d at %d: %x, want %x", kind, at, got, want)
				}
				x.ends("a store")
			}
		}
	}
}

// access is an address, what a load and a store there come to, whether that is a refill, and whether EntryHi is told of it.
type access struct {
	va            uint32
	load, store   int
	refill, table bool
}

// P16.3: which exception loads and stores of each size enter, and what Bad tells, in each segment, as a user and not, in a slot and not, within an exception and not.
func TestMemoryExceptions(t *testing.T) {
	for _, c := range []access{
		{va: 0x80000000, load: -1, store: -1}, {va: 0x800003fc, load: -1, store: -1}, {va: 0x80000400, load: 7, store: 7}, {va: 0xa00003fc, load: -1, store: -1}, {va: 0xa0000400, load: 7, store: 7}, {va: 0x9ffffffc, load: 7, store: 7}, {va: 0xbffffffc, load: 7, store: 7},
		{va: 0xbf000044, load: -1, store: -1}, {va: 0xbf00004c, load: 7, store: 7}, {va: 0xbf000180, load: 7, store: 7}, {va: 0xbf000010, load: 7, store: 7},
		{va: 0x400, load: -1, store: 1, table: true}, {va: 0x7fc, load: -1, store: 1, table: true}, {va: 0x800, load: -1, store: 1, table: true}, {va: 0xc00, load: 2, store: 3, refill: true, table: true}, {va: 0x1000, load: 2, store: 3, table: true}, {va: 0x13fc, load: 2, store: 3, table: true}, {va: 0, load: 2, store: 3, refill: true, table: true}, {va: 0x7ffff800, load: 2, store: 3, refill: true, table: true},
		{va: 0x7ffffc44, load: -1, store: -1}, {va: 0x7ffffffc, load: 7, store: 7}, {va: 0xc0000000, load: 7, store: 7}, {va: 0xc0000400, load: 2, store: 3, refill: true, table: true}, {va: 0xfffffffc, load: -1, store: -1}, {va: 0xfffff800, load: 2, store: 3, refill: true, table: true},
	} {
		for _, status := range []uint32{0, exl, um, um | exl} {
			for _, slot := range []bool{false, true} {
				for _, kind := range memoryKinds() {
					accesses(t, c, status, slot, kind)
				}
			}
		}
	}
}

func accesses(t *testing.T, c access, status uint32, slot bool, kind int) {
	t.Helper()
	x := sizedBench(t, 1, func(s *api.State, b *bus.Bus) {
		spread(s, b)
		put(t, b, timer0At+4, 0x01020304, 0)
		s.PC, s.Next, s.Slot, s.C0[12] = 0x408, 0x80000100, slot, status
		s.R[1], s.R[2] = c.va-8, 0x80
		s.Linked = c.va % 0x20000000
		switch {
		case c.va >= 0xfffffc00:
			s.Linked = c.va % 1024
		case c.va >= 0xc0000000:
			s.Linked = 0x400 + c.va%1024
		case c.va >= 0x7ffffc00 && c.va < 0x80000000:
			s.Linked = 0x1f000000 + c.va%1024
		}
	})
	was := x.s
	code, store := c.load, kind >= api.SB && kind != api.LL
	if store {
		code = c.store
	}
	refill, table := c.refill, c.table
	if small := kind != api.LW && kind != api.LL && kind != api.SW && kind != api.SC; code == -1 && small && c.va%0x20000000 >= 0x1f000000 && c.va < 0xc0000000 && c.va >= 0x7ffffc00 {
		code = 7 // a piece of a device's word
	}
	if isUser(&was) && c.va >= 0x80000000 {
		code, refill, table = 4, false, false
		if store {
			code = 5
		}
	}
	if got := x.exec(sti(kind, 1, 2, 8)); got != code {
		t.Fatalf("kind %d at %#x, Status %#x: %d, want %d", kind, c.va, status, got, code)
	}
	if code >= 0 {
		if code != api.DBE {
			was.C0[8] = c.va
			if table {
				was.C0[10] = c.va&0xfffffc00 | 7
			}
		}
		same(t, "behind an exception", x.s, entered(was, code, refill))
	}
	x.ends("an access")
}

// P16.3: memory's very end and past it, of each size.
func TestMemoryEnd(t *testing.T) {
	for _, pages := range []int{1, 2, 63, 64} {
		size := uint32(pages) * 1024
		for _, kind := range memoryKinds() {
			n := uint32(sizeOf(kind))
			for at := size - 8; at < size+8; at += n {
				x := sizedBench(t, pages, func(s *api.State, b *bus.Bus) {
					crowded(s)
					s.R[1] = open + at
					s.Linked = at
				})
				was := x.s
				want := -1
				if at >= size {
					want = api.DBE
				}
				if got := x.exec(sti(kind, 1, 2, 0)); got != want {
					t.Errorf("%d pages: kind %d at %#x: %d", pages, kind, at, got)
				}
				if want == api.DBE {
					same(t, "behind DBE", x.s, entered(was, api.DBE, false))
				}
				x.ends("the end")
			}
		}
	}
}

// P16.3: addresses are modulo 2^32.
func TestAddressesWrap(t *testing.T) {
	for _, c := range []struct{ s, imm, va uint32 }{{0xfffffff0, 0x10, 0}, {0xfffffff0, 0x7ff0, 0x7fe0}, {0, 0xfffc, 0xfffffffc}, {4, 0x8000, 0xffff8004}, {0x7ffffff0, 0x20, 0x80000010}, {0x80000000, 0xfff8, 0x7ffffff8}} {
		for _, kind := range memoryKinds() {
			x := newBench(t, func(s *api.State, b *bus.Bus) {
				crowded(s)
				s.R[1] = c.s
			})
			code := x.exec(sti(kind, 1, 2, c.imm))
			if open := c.va >= 0x80000000 && c.va < 0xc0000000; open != (code == -1) || !open && x.s.C0[8] != c.va {
				t.Errorf("kind %d at %#x and %#x: %d, BadVAddr %#x", kind, c.s, c.imm, code, x.s.C0[8])
			}
			x.ends("an address that wraps")
		}
	}
}

// P16.3, P16.4: each word of the devices is loaded and stored at the time of the step, and the line is as it is behind it.
func TestDevices(t *testing.T) {
	for at := uint32(linesAt); at < linesAt+0x190; at += 4 {
		for _, kind := range memoryKinds() {
			for _, v := range []uint32{0, 1, 2, 3, 0x3e, 0xffffffff} {
				x := newBench(t, func(s *api.State, b *bus.Bus) {
					crowded(s)
					put(t, b, linesAt+4, 0x3e, 0)
					put(t, b, uartAt+8, 1, 0)
					b.Type(byte(v))
					s.R[1], s.R[2] = 0xa0000000+at, v
					s.Linked, s.Time = at, 7<<32|99
				})
				x.exec(sti(kind, 1, 2, 0))
				x.ends("a device")
			}
		}
	}
}

// P16.4: the line behind a store that turns it, either way, and a load that does; and behind one that does not.
func TestLineBehind(t *testing.T) {
	for i, c := range []struct {
		i      api.Inst
		at, v  uint32
		before bool // a byte is there, and the uart asks for it
		was    uint32
		cause  uint32
	}{
		{sti(api.SW, 1, 2, 0), uartAt + 8, 1, false, 0, 0}, {sti(api.SW, 1, 2, 0), uartAt + 8, 2, false, 0, devices}, {sti(api.SW, 1, 2, 0), uartAt + 8, 0, true, devices, 0}, {sti(api.SW, 1, 2, 0), linesAt + 4, 0, true, devices, 0}, {sti(api.SW, 1, 2, 0), linesAt + 4, 1 << 3, true, 0, devices}, {sti(api.LW, 1, 2, 0), uartAt, 0, true, devices, 0}, {sti(api.LW, 1, 2, 0), uartAt + 4, 0, true, devices, devices}, {sti(api.LW, 1, 2, 0), uartAt + 4, 0, true, 0, devices}, {sti(api.LB, 1, 2, 0), uartAt, 0, true, devices, devices | api.DBE*4}, {sti(api.LB, 1, 2, 0), uartAt, 0, false, devices, api.DBE * 4}, {std(api.ADDU, 1, 2, 3), 0, 0, true, 0, devices}, {std(api.ADDU, 1, 2, 3), 0, 0, false, devices, 0}, {std(api.SYSCALL, 0, 0, 0), 0, 0, false, devices, api.Sys * 4}, {std(api.SYSCALL, 0, 0, 0), 0, 0, true, 0, devices | api.Sys*4}, {std(api.ERET, 0, 0, 0), 0, 0, true, 0, devices}, {std(api.WAIT, 0, 0, 0), 0, 0, false, devices, 0}, {std(api.J, 0, 0, 0), 0, 0, false, devices, 0}, {api.Inst{Kind: -1}, 0, 0, true, 0, devices | api.RI*4},
		{std(api.MTC0, 0, 3, 13), 0, 0, true, devices, devices | 0x300}, {std(api.MFC0, 0, 2, 13), 0, 0, false, devices, 0},
	} {
		x := newBench(t, func(s *api.State, b *bus.Bus) {
			put(t, b, linesAt+4, 0x3e, 0)
			if c.before {
				put(t, b, uartAt+8, 1, 0)
				b.Type('k')
			}
			s.R[1], s.R[2], s.R[3] = 0xa0000000+c.at, c.v, 0xffffffff
			s.C0[13] = c.was
		})
		if x.exec(c.i); x.s.C0[13] != c.cause {
			t.Errorf("case %d: Cause %#x, want %#x", i, x.s.C0[13], c.cause)
		}
		x.ends("the line")
	}
}

// P16.3: LL, and what a store of each size about the linked word, by two addresses that lie at one place, makes of the link.
func TestUnlink(t *testing.T) {
	for _, linked := range []uint32{0x800, 0, 0xffc, 0x3fc, 0x400, 0x801, 0x803, 0xfffffffc, 0xffffffff, 0xfffffffd, 2} {
		for _, kind := range storeKinds() {
			n := uint32(sizeOf(kind))
			for by := -8; by < 12; by++ {
				at := linked + uint32(by)
				if at%n != 0 || at >= 4096 {
					continue
				}
				for _, from := range []uint32{0x80000000, 0xa0000000, 0x40000000} {
					for _, link := range []bool{false, true} {
						x := newBench(t, func(s *api.State, b *bus.Bus) {
							crowded(s)
							s.Link, s.Linked = link, linked
							s.R[1], s.R[2] = from+at, 0x01020304
							s.Table[4] = api.Entry{Hi: (from + at) &^ 1023, Lo: at&^1023 | 7}
						})
						code := x.exec(sti(kind, 1, 2, 0))
						apart := by <= -int(n) || by >= 4
						if kind == api.SC {
							apart = false // the link is gone, whether it stores or not
						}
						if code != -1 || x.s.Link != (link && apart) || x.s.Linked != linked {
							t.Errorf("linked %#x, store %d at %#x: %d, Link %v, Linked %#x", linked, kind, at, code, x.s.Link, x.s.Linked)
						}
						x.ends("a store about the link")
					}
				}
			}
		}
	}
}

// P16.3: SC: with Link and without, at the linked address, beside it, and by another address of the place; and with addresses that are refused.
func TestStoreConditional(t *testing.T) {
	for _, c := range []struct {
		link   bool
		linked uint32
		va     uint32
		status uint32
		code   int
		stored bool
	}{
		{true, 0x800, 0x80000800, 0, -1, true}, {true, 0x800, 0xa0000800, 0, -1, true}, {true, 0x800, 0x400, 0, -1, true}, {true, 0x804, 0x404, 0, -1, true}, {false, 0x800, 0x80000800, 0, -1, false}, {true, 0x804, 0x80000800, 0, -1, false}, {true, 0x7fc, 0x80000800, 0, -1, false}, {true, 0x802, 0x80000800, 0, -1, false}, {true, 0x80000800, 0x80000800, 0, -1, false}, {true, 0x400, 0x400, 0, -1, false}, {false, 0, 0x80000000, 0, -1, false}, {true, 0, 0x80000000, 0, -1, true},
		{true, 0x1000, 0x80001000, 0, api.DBE, false}, {false, 0x1000, 0x80001000, 0, -1, false}, {true, 0x800, 0x80001000, 0, -1, false}, {true, 0x1f00004c, 0xbf00004c, 0, api.DBE, false}, {false, 0x1f00004c, 0xbf00004c, 0, -1, false}, {true, 0x1f000044, 0xbf000044, 0, -1, true}, {false, 0x1f000044, 0xbf000044, 0, -1, false},
		{true, 0x802, 0x80000802, 0, api.AdES, false}, {false, 0x802, 0x80000802, 0, api.AdES, false}, {true, 0x800, 0x80000800, um, api.AdES, false}, {false, 0x800, 0x80000800, um, api.AdES, false}, {true, 0x800, 0x400, um, -1, true}, {true, 0x800, 0xc00, 0, api.TLBS, false}, {false, 0x800, 0xc00, 0, api.TLBS, false}, {true, 0x800, 0x800, 0, api.Mod, false}, {false, 0x800, 0x800, 0, api.Mod, false}, {true, 0x800, 0x1000, 0, api.TLBS, false}, {false, 0x800, 0x1000, 0, api.TLBS, false},
	} {
		for _, place := range []int{2, 1, 0} {
			x := newBench(t, func(s *api.State, b *bus.Bus) {
				crowded(s)
				s.Link, s.Linked, s.C0[12] = c.link, c.linked, c.status
				s.R[1], s.R[2] = c.va, 0x11223344
				s.Table[0] = api.Entry{Hi: 0x400, Lo: 0x800 | api.V | api.D | api.G}
				s.Table[1] = api.Entry{Hi: 0x800, Lo: 0x800 | api.V | api.G}
				s.Table[2] = api.Entry{Hi: 0x1000, Lo: 0x800 | api.D | api.G}
			})
			was := x.s
			x.b.Ram().Written()
			if got := x.exec(sti(api.SC, 1, place, 0)); got != c.code {
				t.Fatalf("SC at %#x: %d, want %d", c.va, got, c.code)
			}
			want, v := was, was.R[place]
			switch c.code {
			case -1:
				want.Link = false
				if want.R[place] = 0; c.stored {
					want.R[place] = 1
				}
				want.R[0] = 0
				want.PC, want.Next, want.Time, want.C0[9] = reset+4, reset+8, 78, 0x9999999a
			case api.DBE:
				want = entered(was, c.code, false)
			case api.AdES:
				was.C0[8] = c.va
				want = entered(was, c.code, false)
			default:
				was.C0[8], was.C0[10] = c.va, c.va&0xfffffc00|0xa5
				want = entered(was, c.code, c.va == 0xc00)
			}
			same(t, "behind SC", x.s, want)
			if w, _ := x.b.Load(c.linked, 4, 0); c.stored && w != v || !c.stored && w != 0 && c.linked < linesAt {
				t.Errorf("SC at %#x: %#x is there", c.va, w)
			}
			x.ends("SC")
		}
	}
}

// P16.3: LL that enters an exception links nothing; one that is right links where it lies, in memory and at a device.
func TestLoadLinked(t *testing.T) {
	for _, c := range []struct {
		va, lies uint32
		code     int
	}{{0x80000800, 0x800, -1}, {0xa0000804, 0x804, -1}, {0x404, 0x804, -1}, {0xbf000008, 0x1f000008, -1}, {0x80000802, 0, api.AdEL}, {0x80001000, 0, api.DBE}, {0xbf00004c, 0, api.DBE}, {0x5000, 0, api.TLBL}} {
		for _, link := range []bool{false, true} {
			x := newBench(t, func(s *api.State, b *bus.Bus) {
				crowded(s)
				s.Link, s.R[1] = link, c.va
				s.Table[0] = api.Entry{Hi: 0x400, Lo: 0x800 | api.V | api.G}
			})
			was := x.s
			if got := x.exec(sti(api.LL, 1, 2, 0)); got != c.code {
				t.Errorf("LL at %#x: %d", c.va, got)
			}
			if c.code == -1 && (!x.s.Link || x.s.Linked != c.lies) || c.code >= 0 && (x.s.Link != link || x.s.Linked != was.Linked || x.s.R[2] != was.R[2]) {
				t.Errorf("LL at %#x: Link %v, Linked %#x", c.va, x.s.Link, x.s.Linked)
			}
			x.ends("LL")
		}
	}
}

// P16.3: what does not end a link: loads, stores elsewhere, exceptions, what the mover brings; and what does: ERET, SC of any kind.
func TestLinkStays(t *testing.T) {
	for _, c := range []struct {
		i     api.Inst
		stays bool
	}{{sti(api.LW, 1, 2, 0), true}, {sti(api.SW, 1, 2, 4), true}, {sti(api.SW, 1, 2, 0xfffc), true}, {sti(api.SW, 1, 2, 2), true}, {sti(api.SB, 1, 2, 4), true}, {sti(api.SB, 1, 2, 0xffff), true}, {sti(api.SH, 1, 2, 0xfffe), true}, {std(api.SYSCALL, 0, 0, 0), true}, {std(api.WAIT, 0, 0, 0), true}, {std(api.J, 0, 0, 0), true}, {sti(api.SW, 1, 2, 0), false}, {sti(api.SB, 1, 2, 3), false}, {sti(api.SH, 1, 2, 2), false}, {sti(api.SC, 1, 2, 0), false}, {sti(api.SC, 1, 2, 4), false}, {std(api.ERET, 0, 0, 0), false}} {
		x := newBench(t, func(s *api.State, b *bus.Bus) {
			crowded(s)
			s.R[1] = 0x80000800
		})
		x.exec(sti(api.LL, 1, 2, 0))
		if x.exec(c.i); x.s.Link != c.stays || x.s.Linked != 0x800 {
			t.Errorf("behind %v: Link %v", c.i, x.s.Link)
		}
	}
	x := newBench(t, func(s *api.State, b *bus.Bus) {
		s.Link, s.Linked = true, 0x800
		program(t, b, 0x400, count(1))
		put(t, b, dmaAt+4, 0x800, 0)
		put(t, b, dmaAt+8, 4, 0)
		put(t, b, dmaAt+12, 1, 0)
		s.Time = 9
	})
	x.steps(-1)
	if len(x.b.Events()) != 0 || !x.s.Link {
		t.Errorf("behind a move to the linked word: Link %v", x.s.Link)
	}
	x.ends("a move")
}
