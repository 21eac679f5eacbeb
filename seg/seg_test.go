package seg

import (
	"math"
	"math/rand"
	"testing"

	"pianola/api"
	"pianola/cp0"
	"pianola/tlb"
)

const (
	top = 0x80000000
	all = 0xffffffff
)

// crowded is a State in which each part holds something of its own, so that a call that turns too much is seen. Its entries are of pages in each segment, all of them global; Status has neither UM nor EXL.
func crowded() api.State {
	s := api.State{Hi: 0x11111111, Lo: 0x22222222, PC: 0x1000, Next: 0x9000, Slot: true, Link: true, Linked: 0x33333333, Waits: true, Time: 77}
	for i := range s.R {
		s.R[i] = 0x5a000000 + uint32(i)
	}
	for i := range s.C0 {
		s.C0[i] = 0xa5a5c0c0 + uint32(i)<<16
	}
	for i, page := range []uint32{0, 0x7ffffc00, 0x80000000, 0x9ffffc00, 0xa0000000, 0xbffffc00, 0xc0000000, 0xfffffc00} {
		s.Table[i] = api.Entry{Hi: page | 0x11, Lo: 0x12340000 + uint32(i)*0x5400 | 7}
	}
	s.C0[10] = 0x123000c0
	s.C0[12] = 0xff01
	return s
}

// emptied is a crowded State whose entries are of pages that no address of these tests is in.
func emptied() api.State {
	s := crowded()
	for i := range s.Table {
		s.Table[i] = api.Entry{Hi: 0x7ee00000 + uint32(i)*0x400, Lo: 3}
	}
	return s
}

// edges are the first and the last addresses of each segment and the ones just beside.
func edges() []uint32 {
	var out []uint32
	for _, from := range []uint32{0, 0x80000000, 0xa0000000, 0xc0000000, 0xe0000000} {
		for by := range uint32(17) {
			out = append(out, from+by-8)
		}
	}
	return out
}

// words are such as all bits, none, each bit alone, each bit missing, and some from anywhere.
func words() []uint32 {
	out := []uint32{0, all, 0x12345678, 0x87654321, 0xdeadbeef, 0x55555555, 0xaaaaaaaa, 0x3ff, 0xfffffc00, 0x300, 0xff, 0x3f8}
	for bit := range 32 {
		out = append(out, 1<<bit, all^1<<bit)
	}
	random := rand.New(rand.NewSource(8))
	for range 40 {
		out = append(out, random.Uint32()>>random.Intn(32))
	}
	return out
}

// sizes are what n may be: the three that have a meaning, and others.
func sizes() []int {
	return []int{1, 2, 4, 0, 3, 5, 6, 7, 8, 9, 12, 16, 32, 255, 256, 257, 258, 1024, 1<<32 + 1, 1<<32 + 2, 1<<32 + 4, 1 << 32, -1, -2, -3, -4, -8, math.MinInt, math.MinInt + 1, math.MinInt + 2, math.MaxInt, math.MaxInt - 1, math.MaxInt32, math.MinInt32}
}

// statuses are words of Status, and whether they are a user's.
func statuses() map[uint32]bool {
	return map[uint32]bool{
		0: false, 0x10: true, 0x02: false, 0x12: false,
		0xff01: false, 0xff11: true, 0xff03: false, 0xff13: false,
		0xffffffef: false, 0xfffffffd: true, 0xffffffed: false, all: false,
		0x08: false, 0x20: false, 0x18: true, 0x14: true, 0x30: true,
	}
}

// bitsOf reads v bit by bit, so that no mask of the program plays a part.
func bitsOf(v uint32) [32]bool {
	var out [32]bool
	for bit := range out {
		out[bit] = v%2 == 1
		v /= 2
	}
	return out
}

// lowest is what v's lowest bits are, as many as count tells.
func lowest(v uint32, count int) uint32 {
	bits, out := bitsOf(v), uint32(0)
	for bit := count - 1; bit >= 0; bit-- {
		out *= 2
		if bits[bit] {
			out++
		}
	}
	return out
}

// isUser reads Status bit by bit.
func isUser(s api.State) bool {
	bits := bitsOf(s.C0[12])
	return bits[4] && !bits[1]
}

// lies is what Find answers, told by the bits of va.
func lies(s api.State, va uint32, n int, store bool) (uint32, int, bool) {
	code := 4
	if store {
		code = 5
	}
	bits := bitsOf(va)
	odd := bits[0] || bits[1]
	if n == 1 {
		odd = false
	}
	if n == 2 {
		odd = bits[0]
	}
	switch {
	case odd, bits[31] && isUser(s):
		return 0, code, false
	case bits[31] && !bits[30]:
		return lowest(va, 29), -1, false
	}
	return tlb.Look(&s, va, store)
}

func same(t *testing.T, what string, got, want api.State) {
	t.Helper()
	if got != want {
		t.Fatalf("%s:\n got %#v\nwant %#v", what, got, want)
	}
}

// finds asks for the three answers, and that nothing is turned.
func finds(t *testing.T, s api.State, va uint32, n int, store bool, at uint32, code int, refill bool) {
	t.Helper()
	was := s
	if gotAt, gotCode, gotRefill := Find(&s, va, n, store); gotAt != at || gotCode != code || gotRefill != refill {
		t.Errorf("Find(%#x, %d, %v), Status %#x: %#x, %d, %v, want %#x, %d, %v", va, n, store, s.C0[12], gotAt, gotCode, gotRefill, at, code, refill)
	}
	same(t, "behind Find", s, was)
}

// both asks for the answers of a load, and of a store.
func both(t *testing.T, s api.State, va uint32, n int, at uint32, load, store int, refill bool) {
	t.Helper()
	finds(t, s, va, n, false, at, load, refill)
	finds(t, s, va, n, true, at, store, refill)
}

// held asks for what lies tells.
func held(t *testing.T, s api.State, va uint32, n int) {
	t.Helper()
	for _, store := range []bool{false, true} {
		at, code, refill := lies(s, va, n, store)
		finds(t, s, va, n, store, at, code, refill)
	}
}

// P8.1: the first and the last address of each segment and the ones just beside, not as a User, with a table that has their pages, and with one that has none.
func TestFindEdges(t *testing.T) {
	for _, c := range []struct {
		va, at uint32
		table  bool
	}{
		{0, 0x12340000, true}, {1, 0x12340001, true}, {0x3ff, 0x123403ff, true},
		{0x7ffffc00, 0x12345400, true}, {0x7ffffffe, 0x123457fe, true}, {0x7fffffff, 0x123457ff, true},
		{0x80000000, 0, false}, {0x80000001, 1, false}, {0x80000400, 0x400, false},
		{0x9ffffffe, 0x1ffffffe, false}, {0x9fffffff, 0x1fffffff, false},
		{0xa0000000, 0, false}, {0xa0000001, 1, false},
		{0xbffffffe, 0x1ffffffe, false}, {0xbfffffff, 0x1fffffff, false},
		{0xc0000000, 0x1235f800, true}, {0xc0000001, 0x1235f801, true}, {0xc00003ff, 0x1235fbff, true},
		{0xfffffc00, 0x12364c00, true}, {0xfffffffe, 0x12364ffe, true}, {0xffffffff, 0x12364fff, true},
	} {
		both(t, crowded(), c.va, 1, c.at, -1, -1, false)
		if c.table {
			both(t, emptied(), c.va, 1, 0, 2, 3, true)
			continue
		}
		both(t, emptied(), c.va, 1, c.at, -1, -1, false)
	}
}

// P8.1: n of 1, 2, 4, and others, which count as 4, at addresses that are multiples and at each that is none, in every segment.
func TestFindMultiples(t *testing.T) {
	for _, from := range []uint32{0, 0x7fffffe0, 0x80000000, 0x9fffffe0, 0xa0000000, 0xbfffffe0, 0xc0000000, 0xffffffe0} {
		for by := range uint32(32) {
			for _, n := range sizes() {
				step := uint32(4)
				if n == 1 || n == 2 {
					step = uint32(n)
				}
				for _, s := range []api.State{crowded(), emptied()} {
					if by/step*step != by {
						both(t, s, from+by, n, 0, 4, 5, false)
						continue
					}
					held(t, s, from+by, n)
				}
			}
		}
	}
}

// P8.1: each bit from 2 on is nothing to a multiple of 4.
func TestFindMultiplesEachBit(t *testing.T) {
	for bit := range 29 {
		for _, n := range sizes() {
			va := uint32(top) + 1<<bit
			if bit == 0 && n != 1 || bit == 1 && n != 1 && n != 2 {
				both(t, crowded(), va, n, 0, 4, 5, false)
				continue
			}
			both(t, crowded(), va, n, 1<<bit, -1, -1, false)
		}
	}
}

// P8.1: a User's addresses from 0x80000000 on are AdEL and AdES, ahead of the segments and of what the table holds; below they are as anyone's.
func TestFindUser(t *testing.T) {
	for status, user := range statuses() {
		for _, s := range []api.State{crowded(), emptied()} {
			s.C0[12] = status
			for _, va := range []uint32{0x80000000, 0x80000400, 0x9ffffffc, 0xa0000000, 0xbffffffc, 0xc0000000, 0xe0000000, 0xfffffffc} {
				for _, n := range sizes() {
					if user {
						both(t, s, va, n, 0, 4, 5, false)
						continue
					}
					held(t, s, va, n)
				}
			}
		}
		s := crowded()
		s.C0[12] = status
		both(t, s, 0, 4, 0x12340000, -1, -1, false)
		both(t, s, 0x7ffffffc, 4, 0x123457fc, -1, -1, false)
		both(t, s, 0x7fffffff, 1, 0x123457ff, -1, -1, false)
		both(t, s, 0x400, 4, 0, 2, 3, true)
		both(t, s, 0x7ffffbfc, 4, 0, 2, 3, true)
	}
}

// P8.1: an address that is no multiple is told ahead of all else: where it is a User's or not, mapped or not, found or not, whatever V and D are.
func TestFindNoMultipleFirst(t *testing.T) {
	for status := range statuses() {
		for _, va := range []uint32{2, 0x401, 0x7ffffffe, 0x7fffffff, 0x80000001, 0x80000002, 0xa0000003, 0xbfffffff, 0xc0000002, 0xc0000401, 0xffffffff} {
			for lo := range uint32(8) {
				s := crowded()
				s.C0[12] = status
				s.Table[0] = api.Entry{Hi: va/1024*1024 | 0xc0, Lo: 0x8000 | lo}
				both(t, s, va, 4, 0, 4, 5, false)
				both(t, s, va, 0, 0, 4, 5, false)
			}
		}
	}
}

// P8.1: from 0x80000000 on below 0xc0000000 the lowest 29 bits, each alone, each missing and others, whatever the table holds of that page.
func TestFindUnmapped(t *testing.T) {
	for _, v := range words() {
		for _, from := range []uint32{0x80000000, 0xa0000000} {
			va := from + v%0x20000000
			for lo := range uint32(8) {
				s := crowded()
				s.Table[3] = api.Entry{Hi: va/1024*1024 | 0xc0, Lo: 0x8000 | lo}
				both(t, s, va, 1, v%0x20000000, -1, -1, false)
			}
			both(t, emptied(), va, 1, lowest(va, 29), -1, -1, false)
		}
	}
}

// P8.1: elsewhere what the table tells: each of V, D, G alone and together, an entry of the own space and of another, at each place, as a User and not.
func TestFindMapped(t *testing.T) {
	for _, c := range []struct {
		lo          uint32
		load, store int
	}{{0, 2, 3}, {1, -1, 1}, {2, 2, 3}, {3, -1, -1}, {4, 2, 3}, {5, -1, 1}, {6, 2, 3}, {7, -1, -1}} {
		for place := range 8 {
			for _, page := range []uint32{0, 0x5000, 0x7ffffc00, 0xc0000000, 0xfffffc00} {
				for _, status := range []uint32{0, 0x10, 0x12} {
					if status == 0x10 && page >= top {
						continue
					}
					s := emptied()
					s.C0[12] = status
					s.Table[place] = api.Entry{Hi: page | 0xc0, Lo: 0x8000 | c.lo}
					asked(t, s, page+0x124, c.load, c.store)
					s.Table[place].Hi = page | 0xc1
					if c.lo >= 4 {
						asked(t, s, page+0x124, c.load, c.store)
						continue
					}
					both(t, s, page+0x124, 4, 0, 2, 3, true)
				}
			}
		}
	}
}

// asked asks for an address whose page's entry leads to 0x8000, and is found.
func asked(t *testing.T, s api.State, va uint32, load, store int) {
	t.Helper()
	for i, code := range []int{load, store} {
		at := uint32(0)
		if code < 0 {
			at = 0x8124
		}
		finds(t, s, va, 4, i == 1, at, code, false)
	}
}

// P8.1: of two entries of one page the one at the lower place, and another space's is passed by.
func TestFindSeveral(t *testing.T) {
	for _, page := range []uint32{0x5000, 0xc0000000} {
		s := emptied()
		s.Table[2] = api.Entry{Hi: page | 0xc1, Lo: 0x7003}
		s.Table[4] = api.Entry{Hi: page | 0xc0, Lo: 0x8003}
		s.Table[5] = api.Entry{Hi: page | 0xc0, Lo: 0x9007}
		both(t, s, page+4, 4, 0x8004, -1, -1, false)
		s.C0[10] = 0xc1
		both(t, s, page+4, 4, 0x7004, -1, -1, false)
		s.C0[10] = 0xc2
		both(t, s, page+4, 4, 0x9004, -1, -1, false)
	}
}

// P8.1: addresses of all kinds, with each n and each Status, against a telling bit by bit.
func TestFindAnywhere(t *testing.T) {
	for _, va := range append(edges(), words()...) {
		for _, n := range sizes() {
			for status := range statuses() {
				for _, s := range []api.State{crowded(), emptied()} {
					s.C0[12] = status
					held(t, s, va, n)
				}
			}
		}
	}
}

// P8.1: tables and registers from anywhere, with addresses of their pages.
func TestFindAnyTable(t *testing.T) {
	random := rand.New(rand.NewSource(88))
	for range 4000 {
		s := crowded()
		for i := range s.C0 {
			s.C0[i] = random.Uint32()
		}
		s.C0[10] = random.Uint32()<<8 | uint32(random.Intn(3))
		for i := range s.Table {
			page := uint32(random.Intn(3)) * 1024
			s.Table[i] = api.Entry{Hi: uint32(random.Intn(4))<<30 | page | uint32(random.Intn(3)), Lo: random.Uint32()}
		}
		for range 16 {
			va := uint32(random.Intn(4))<<30 | uint32(random.Intn(3*1024))
			held(t, s, va, random.Intn(9)-2)
		}
	}
}

// P8.1: Find goes by Status and EntryHi alone, beside the table: no other register plays a part.
func TestFindOthers(t *testing.T) {
	for n := range 16 {
		if n == api.Status || n == api.EntryHi {
			continue
		}
		for _, v := range []uint32{0, all} {
			s := crowded()
			s.C0[n] = v
			both(t, s, 0x7fffff00, 4, 0x12345700, -1, -1, false)
			both(t, s, 0xbfffff00, 4, 0x1fffff00, -1, -1, false)
			s.C0[12] = 0x10
			both(t, s, 0x7fffff00, 4, 0x12345700, -1, -1, false)
			both(t, s, 0xbfffff00, 4, 0, 4, 5, false)
		}
	}
}

// modes asks for Mode, and that nothing is turned.
func modes(t *testing.T, s api.State, want int) {
	t.Helper()
	was := s
	if got := Mode(&s); got != want {
		t.Errorf("Mode, EntryHi %#x, Status %#x: %d, want %d", s.C0[10], s.C0[12], got, want)
	}
	same(t, "behind Mode", s, was)
}

// P8.1: Mode of every space, with bits of EntryHi above it and without, as a User and not.
func TestMode(t *testing.T) {
	for space := range 256 {
		for _, above := range []uint32{0, 0x100, 0x200, 0x400, top, 0xffffff00, 0xabcdef00} {
			for status, user := range statuses() {
				s := crowded()
				s.C0[10], s.C0[12] = above|uint32(space), status
				want := space
				if user {
					want = 256 + space
				}
				modes(t, s, want)
			}
		}
	}
}

// P8.1: Mode of each bit of EntryHi alone and missing, and of each bit of Status.
func TestModeBits(t *testing.T) {
	for _, hi := range words() {
		s := crowded()
		s.C0[10] = hi
		modes(t, s, int(lowest(hi, 8)))
		s.C0[12] = 0x10
		modes(t, s, int(lowest(hi, 8))+256)
		s.C0[12] = 0x12
		modes(t, s, int(lowest(hi, 8)))
	}
	for _, status := range words() {
		s := crowded()
		s.C0[10], s.C0[12] = 0x77, status
		want := 0x77
		if isUser(s) {
			want = 0x177
		}
		modes(t, s, want)
	}
}

// P8.1: Mode hangs on EntryHi and Status alone.
func TestModeOthers(t *testing.T) {
	for n := range 16 {
		if n == api.Status || n == api.EntryHi {
			continue
		}
		for _, v := range []uint32{0, all} {
			s := crowded()
			s.C0[n] = v
			modes(t, s, 0xc0)
			s.C0[12] = 0x10
			modes(t, s, 0x1c0)
		}
	}
	s := cp0.Fresh()
	modes(t, s, 0)
	s.R, s.Hi, s.Lo, s.Time = crowded().R, all, all, math.MaxInt64
	s.Table = crowded().Table
	modes(t, s, 0)
}

// P8.1: whose modes are the same, to them an address lies at the same place.
func TestModeIsEnough(t *testing.T) {
	for _, va := range append(edges(), words()...) {
		for status := range statuses() {
			one, other := crowded(), crowded()
			one.Table[4] = api.Entry{Hi: va/1024*1024 | 0xc0, Lo: 0x8003}
			other.Table = one.Table
			one.C0[12], other.C0[12] = status, 0
			if isUser(one) {
				other.C0[12] = 0x10
			}
			other.C0[10] = 0xfffff3c0
			modes(t, other, Mode(&one))
			at, code, refill := Find(&one, va, 1, false)
			finds(t, other, va, 1, false, at, code, refill)
		}
	}
}

// P8.1, R1: a nil State: zero values.
func TestNil(t *testing.T) {
	for _, va := range append(edges(), words()...) {
		for _, n := range sizes() {
			for _, store := range []bool{false, true} {
				if at, code, refill := Find(nil, va, n, store); at != 0 || code != 0 || refill {
					t.Errorf("Find(nil, %#x, %d, %v): %#x, %d, %v", va, n, store, at, code, refill)
				}
			}
		}
	}
	if got := Mode(nil); got != 0 {
		t.Errorf("Mode(nil): %d", got)
	}
}

// P8.1: the chapter's run and its examples.
func TestChapter(t *testing.T) {
	finds(t, cp0.Fresh(), 0x80000400, 4, false, 0x400, -1, false)
	finds(t, cp0.Fresh(), 2, 4, true, 0, api.AdES, false)
	finds(t, cp0.Fresh(), 0xa0000000, 4, false, 0, -1, false)
}
