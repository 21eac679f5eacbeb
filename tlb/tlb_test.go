package tlb

import (
	"math/rand"
	"testing"

	"pianola/api"
	"pianola/cp0"
)

const (
	top = 0x80000000
	all = 0xffffffff
)

// crowded is a State in which each part holds something of its own, so that a call that turns too much is seen. Its entries are of eight pages of one space, which EntryHi names.
func crowded() api.State {
	s := api.State{Hi: 0x11111111, Lo: 0x22222222, PC: 0x1000, Next: 0x9000, Slot: true, Link: true, Linked: 0x33333333, Waits: true, Time: 77}
	for i := range s.R {
		s.R[i] = 0x5a000000 + uint32(i)
	}
	for i := range s.C0 {
		s.C0[i] = 0xa5a5c0c0 + uint32(i)<<16
	}
	for i := range s.Table {
		s.Table[i] = api.Entry{Hi: pageOf(i) | 0xc0, Lo: frameOf(i) | 3}
	}
	s.C0[10] = 0x123000c0
	return s
}

// pageOf is the page of the crowded State's entry i.
func pageOf(i int) uint32 { return 0x40000000 + uint32(i)*0x400 }

// frameOf is where that page lies.
func frameOf(i int) uint32 { return 0x12340000 + uint32(i)*0x5400 }

// emptied is a crowded State whose entries are of pages that no address of these tests is in.
func emptied() api.State {
	s := crowded()
	for i := range s.Table {
		s.Table[i] = api.Entry{Hi: 0x7ee00000 + uint32(i)*0x400, Lo: 3}
	}
	return s
}

// words are such as all bits, none, each bit alone, each bit missing, and some from anywhere.
func words() []uint32 {
	out := []uint32{0, all, 0x12345678, 0x87654321, 0xdeadbeef, 0x55555555, 0xaaaaaaaa, 0x3ff, 0xfffffc00, 0x300, 0xff, 0x3f8}
	for bit := range 32 {
		out = append(out, 1<<bit, all^1<<bit)
	}
	random := rand.New(rand.NewSource(7))
	for range 20 {
		out = append(out, random.Uint32()>>random.Intn(32))
	}
	return out
}

// bitsOf reads v bit by bit, so that no mask of the program plays a part.
func bitsOf(v uint32) [32]bool {
	var out [32]bool
	for bit := range out {
		out[bit] = v%2 == 1
		v /= 2
	}
	return out
}

func wordOf(bits [32]bool) uint32 {
	v := uint32(0)
	for bit := 31; bit >= 0; bit-- {
		v *= 2
		if bits[bit] {
			v++
		}
	}
	return v
}

// alike tells whether two words have the same bits from one place to another, both with them.
func alike(a, b uint32, from, to int) bool {
	one, other := bitsOf(a), bitsOf(b)
	for bit := from; bit <= to; bit++ {
		if one[bit] != other[bit] {
			return false
		}
	}
	return true
}

// without is v whose bits from one place to another are 0, both with them.
func without(v uint32, from, to int) uint32 {
	bits := bitsOf(v)
	for bit := from; bit <= to; bit++ {
		bits[bit] = false
	}
	return wordOf(bits)
}

func has(v uint32, bit int) bool {
	return bitsOf(v)[bit]
}

// placeOf goes through the table from its end, bit by bit: what Find answers.
func placeOf(s api.State, va uint32) int {
	found := -1
	for i := 7; i >= 0; i-- {
		e := s.Table[i]
		if alike(e.Hi, va, 10, 31) && (has(e.Lo, 2) || alike(e.Hi, s.C0[10], 0, 7)) {
			found = i
		}
	}
	return found
}

// lies is what Look answers.
func lies(s api.State, va uint32, store bool) (uint32, int, bool) {
	code := 2
	if store {
		code = 3
	}
	place := placeOf(s, va)
	if place < 0 {
		return 0, code, true
	}
	lo := s.Table[place].Lo
	if !has(lo, 0) {
		return 0, code, false
	}
	if store && !has(lo, 1) {
		return 0, 1, false
	}
	bits, below := bitsOf(lo), bitsOf(va)
	for bit := range 10 {
		bits[bit] = below[bit]
	}
	return wordOf(bits), -1, false
}

func same(t *testing.T, what string, got, want api.State) {
	t.Helper()
	if got != want {
		t.Fatalf("%s:\n got %#v\nwant %#v", what, got, want)
	}
}

// finds asks for the place, and that nothing is turned.
func finds(t *testing.T, s api.State, va uint32, want int) {
	t.Helper()
	was := s
	if got := Find(&s, va); got != want {
		t.Errorf("Find(%#x): %d, want %d", va, got, want)
	}
	same(t, "behind Find", s, was)
}

// looks asks for the three answers, and that nothing is turned.
func looks(t *testing.T, s api.State, va uint32, store bool, at uint32, code int, refill bool) {
	t.Helper()
	was := s
	if gotAt, gotCode, gotRefill := Look(&s, va, store); gotAt != at || gotCode != code || gotRefill != refill {
		t.Errorf("Look(%#x, %v): %#x, %d, %v, want %#x, %d, %v", va, store, gotAt, gotCode, gotRefill, at, code, refill)
	}
	same(t, "behind Look", s, was)
}

// held asks for what placeOf and lies tell.
func held(t *testing.T, s api.State, va uint32) {
	t.Helper()
	finds(t, s, va, placeOf(s, va))
	for _, store := range []bool{false, true} {
		at, code, refill := lies(s, va, store)
		looks(t, s, va, store, at, code, refill)
	}
}

// P7.1: Find at each place, the first and the last address of its page, some between, and the ones just beside all pages.
func TestFind(t *testing.T) {
	s := crowded()
	for i := range 8 {
		for _, offset := range []uint32{0, 1, 2, 4, 0x1ff, 0x200, 0x3fe, 0x3ff} {
			finds(t, s, pageOf(i)+offset, i)
		}
	}
	finds(t, s, pageOf(0)-1, -1)
	finds(t, s, pageOf(8), -1)
	for _, va := range []uint32{0, 0x400, 0x12300000, 0x12340000, 0x3fffffff, top, 0xc0000000, 0xffffffff} {
		finds(t, s, va, -1)
	}
}

// P7.1: every offset of a page finds it, at every place.
func TestFindOffsets(t *testing.T) {
	s := crowded()
	for i := range 8 {
		for offset := range uint32(1024) {
			if got := Find(&s, pageOf(i)+offset); got != i {
				t.Fatalf("Find(%#x): %d, want %d", pageOf(i)+offset, got, i)
			}
		}
	}
}

// P7.1: a page that differs from an entry's in one bit alone is not found, at each place and of each such bit; below bit 10 the bits play no part.
func TestFindEachBit(t *testing.T) {
	for place := range 8 {
		for _, page := range []uint32{0, 0xfffffc00, 0x5000, 0xaaaaa800, 0x55555400} {
			s := emptied()
			s.Table[place] = api.Entry{Hi: page | 0xc0, Lo: 3}
			for bit := range 32 {
				want := place
				if bit >= 10 {
					want = -1
				}
				finds(t, s, page^1<<bit, want)
				finds(t, s, page^1<<bit^0x3ff, want)
			}
		}
	}
}

// P7.1: the lowest 8 bits of Hi and of EntryHi must be the same, unless the entry has G; bits 8 and 9 of both play no part, nor do EntryHi's from 10 on.
func TestFindSpace(t *testing.T) {
	for place := range 8 {
		for _, space := range []uint32{0, 0xff, 0x5a, 1, 0x80} {
			for bit := range 32 {
				s := emptied()
				s.C0[10] = space | 0x77700000
				s.Table[place] = api.Entry{Hi: 0x5000 | space, Lo: 3}
				finds(t, s, 0x5123, place)
				turned := s
				turned.C0[10] ^= 1 << bit
				want := place
				if bit < 8 {
					want = -1
				}
				finds(t, turned, 0x5123, want)
				turned.Table[place].Lo = 7
				finds(t, turned, 0x5123, place)
				if bit < 10 {
					other := s
					other.Table[place].Hi ^= 1 << bit
					finds(t, other, 0x5123, want)
					other.Table[place].Lo = 4
					finds(t, other, 0x5123, place)
				}
			}
		}
	}
}

// P7.1: every space against every other one.
func TestFindSpaces(t *testing.T) {
	s := emptied()
	for own := range uint32(256) {
		s.C0[10] = own
		for space := range uint32(256) {
			s.Table[3] = api.Entry{Hi: 0x5000 | space, Lo: 3}
			want := -1
			if own == space {
				want = 3
			}
			if got := Find(&s, 0x5000); got != want {
				t.Fatalf("Find of space %d from %d: %d, want %d", space, own, got, want)
			}
		}
	}
}

// P7.1: no other bit of Lo than G lets an entry of another space be found, and none hides one.
func TestFindOnlyG(t *testing.T) {
	for _, lo := range words() {
		s := emptied()
		s.Table[5] = api.Entry{Hi: 0x5000 | 0xc1, Lo: lo}
		want := -1
		if has(lo, 2) {
			want = 5
		}
		finds(t, s, 0x53ff, want)
		s.Table[5].Hi = 0x5000 | 0xc0
		finds(t, s, 0x53ff, 5)
	}
}

// P7.1: of two and more entries of one page the lowest place, global or not; one of another space ahead of them is passed by.
func TestFindLowest(t *testing.T) {
	for mask := range 256 {
		s := emptied()
		lowest := -1
		for i := 7; i >= 0; i-- {
			s.Table[i] = api.Entry{Hi: 0x5000 | 0xc1, Lo: 0x8000 | 3}
			if mask>>i&1 == 0 {
				continue
			}
			lowest = i
			s.Table[i].Hi = 0x5000 | 0xc0
			if i%3 == mask%3 {
				s.Table[i] = api.Entry{Hi: 0x5000 | 0x11, Lo: 0x8000 | 7}
			}
		}
		finds(t, s, 0x5000, lowest)
		finds(t, s, 0x53ff, lowest)
		finds(t, s, 0x5400, -1)
	}
}

// P7.1: the entry that is found counts, though a later one of the same page would let the address lie somewhere.
func TestLookLowest(t *testing.T) {
	for first := range 8 {
		for second := first + 1; second < 8; second++ {
			s := emptied()
			s.Table[first] = api.Entry{Hi: 0x5000 | 0xc0, Lo: 0x8000}
			s.Table[second] = api.Entry{Hi: 0x5000 | 0xc0, Lo: 0x9000 | 7}
			looks(t, s, 0x5004, false, 0, 2, false)
			looks(t, s, 0x5004, true, 0, 3, false)
			s.Table[first].Lo = 0x8001
			looks(t, s, 0x5004, false, 0x8004, -1, false)
			looks(t, s, 0x5004, true, 0, 1, false)
			s.Table[first].Lo = 0x8003
			looks(t, s, 0x5004, false, 0x8004, -1, false)
			looks(t, s, 0x5004, true, 0x8004, -1, false)
		}
	}
}

// P7.1: Look of each of V, D, G alone and together, with and without store, at each place, in its own space and in another one.
func TestLookBits(t *testing.T) {
	for _, c := range []struct {
		lo          uint32
		load, store int
	}{{0, 2, 3}, {1, -1, 1}, {2, 2, 3}, {3, -1, -1}, {4, 2, 3}, {5, -1, 1}, {6, 2, 3}, {7, -1, -1}} {
		for place := range 8 {
			s := emptied()
			s.Table[place] = api.Entry{Hi: 0x5000 | 0xc0, Lo: 0x8000 | c.lo}
			for _, o := range []struct {
				store bool
				code  int
			}{{false, c.load}, {true, c.store}} {
				at := uint32(0)
				if o.code == -1 {
					at = 0x8234
				}
				s.Table[place].Hi = 0x5000 | 0xc0
				looks(t, s, 0x5234, o.store, at, o.code, false)
				s.Table[place].Hi = 0x5000 | 0x11
				if has(c.lo, 2) {
					looks(t, s, 0x5234, o.store, at, o.code, false)
					continue
				}
				code := 2
				if o.store {
					code = 3
				}
				looks(t, s, 0x5234, o.store, 0, code, true)
			}
		}
	}
}

// P7.1: an address that no entry is found for is a refill, a load's or a store's, whatever the entries have.
func TestLookRefill(t *testing.T) {
	for _, lo := range words() {
		s := emptied()
		for i := range s.Table {
			s.Table[i].Lo = lo
		}
		for _, va := range []uint32{0, 0x5000, 0x53ff, 0x7edfffff, 0x7ee02000, top, 0xbfffffff, 0xc0000000, all} {
			looks(t, s, va, false, 0, 2, true)
			looks(t, s, va, true, 0, 3, true)
		}
	}
}

// P7.1: where an address lies has Lo's bits from 10 on, va's below, each bit of both alone and missing too.
func TestLookPlace(t *testing.T) {
	for _, lo := range words() {
		for _, va := range words() {
			s := emptied()
			s.Table[6] = api.Entry{Hi: without(va, 0, 9) | 0xc0, Lo: lo | 3}
			looks(t, s, va, false, without(lo, 0, 9)|without(va, 10, 31), -1, false)
			looks(t, s, va, true, without(lo, 0, 9)|without(va, 10, 31), -1, false)
		}
	}
}

// P7.1: bits 3 to 9 of Lo, and 8 and 9 of Hi, which a program can't put, play no part in where an address lies or in what it leads to.
func TestLookOddBits(t *testing.T) {
	for lo := range uint32(1024) {
		s := emptied()
		s.Table[0] = api.Entry{Hi: 0x5000 | 0x3c0, Lo: 0xfff00000 | lo}
		held(t, s, 0x5001)
		s.Table[0].Hi = 0x5000 | 0x3c1
		held(t, s, 0x5001)
	}
}

// P7.1: words of all kinds as Hi, Lo, EntryHi and va, against a search from the end, bit by bit.
func TestSearch(t *testing.T) {
	for _, hi := range words() {
		for _, lo := range words() {
			s := crowded()
			s.Table[2] = api.Entry{Hi: hi, Lo: lo}
			s.Table[7] = api.Entry{Hi: hi, Lo: lo ^ 7}
			for _, entryHi := range []uint32{hi, hi ^ 0x80, hi ^ 0x300, ^hi, 0xc0} {
				s.C0[10] = entryHi
				held(t, s, hi)
				held(t, s, hi^0x3ff)
				held(t, s, hi^0x400)
			}
		}
	}
}

// P7.1: tables from anywhere, of few pages and spaces, so that several entries are of one page.
func TestSearchAnywhere(t *testing.T) {
	random := rand.New(rand.NewSource(17))
	for range 20000 {
		s := crowded()
		for i := range s.Table {
			s.Table[i] = api.Entry{Hi: uint32(random.Intn(4))<<10 | uint32(random.Intn(3)), Lo: random.Uint32()}
		}
		s.C0[10] = uint32(random.Intn(4))<<10 | uint32(random.Intn(3))
		held(t, s, uint32(random.Intn(5))<<10|uint32(random.Intn(1024)))
	}
}

// P7.1: a new State has an entry of page 0 without V, and no other one.
func TestFreshTable(t *testing.T) {
	s := cp0.Fresh()
	for _, va := range []uint32{0, 1, 0x3ff} {
		finds(t, s, va, 0)
		looks(t, s, va, false, 0, 2, false)
		looks(t, s, va, true, 0, 3, false)
	}
	for _, va := range []uint32{0x400, 0x5000, top, 0x80000400, all} {
		finds(t, s, va, -1)
		looks(t, s, va, false, 0, 2, true)
		looks(t, s, va, true, 0, 3, true)
	}
}

// P7.2: Get at each Index, by its lowest 3 bits alone: EntryHi and EntryLo, and nothing else.
func TestGet(t *testing.T) {
	for place := range uint32(8) {
		for _, above := range []uint32{0, 8, 16, 0x80, 0x100, 0x10000, top, 0xfffffff8} {
			want := crowded()
			want.C0[0] = above | place
			s := want
			want.C0[10], want.C0[2] = pageOf(int(place))|0xc0, frameOf(int(place))|3
			Get(&s)
			same(t, "Get", s, want)
		}
	}
}

// P7.2: Get of entries of all kinds: what EntryHi and EntryLo keep of them; the entry stays whole.
func TestGetBits(t *testing.T) {
	for _, hi := range words() {
		for _, lo := range words() {
			want := crowded()
			want.C0[0], want.C0[10], want.C0[2] = 6, all, all
			want.Table[6] = api.Entry{Hi: hi, Lo: lo}
			s := want
			want.C0[10], want.C0[2] = without(hi, 8, 9), without(lo, 3, 9)
			Get(&s)
			same(t, "Get", s, want)
		}
	}
}

// P7.2: Put at each Index, by its lowest 3 bits alone, whatever Count is: that entry, and nothing else.
func TestPut(t *testing.T) {
	for place := range uint32(8) {
		for _, above := range []uint32{0, 8, 16, 0x80, 0x100, 0x10000, top, 0xfffffff8} {
			for count := range uint32(9) {
				want := crowded()
				want.C0[0], want.C0[9] = above|place, count
				want.C0[10], want.C0[2] = 0x76543421, 0x12345405
				s := want
				want.Table[place] = api.Entry{Hi: 0x76543421, Lo: 0x12345405}
				Put(&s, false)
				same(t, "Put", s, want)
			}
		}
	}
}

// P7.2: Put at Random: by Count, whatever Index and Random's own place hold.
func TestPutRandom(t *testing.T) {
	for _, count := range append(words(), 0, 1, 2, 3, 4, 5, 6, 7, 8, 9, 14, 15, 16, 17) {
		for _, index := range []uint32{0, 1, 5, 7, top, all} {
			want := crowded()
			want.C0[0], want.C0[1], want.C0[9] = index, ^count, count
			want.C0[10], want.C0[2] = 0x76543421, 0x12345405
			s := want
			want.Table[count-count/8*8] = api.Entry{Hi: 0x76543421, Lo: 0x12345405}
			Put(&s, true)
			same(t, "Put at Random", s, want)
		}
	}
}

// P7.2: Put takes EntryHi and EntryLo whole, as they stand, each bit alone and missing too.
func TestPutBits(t *testing.T) {
	for _, hi := range words() {
		for _, lo := range words() {
			want := crowded()
			want.C0[0], want.C0[9] = 3, 4
			want.C0[10], want.C0[2] = hi, lo
			s := want
			want.Table[3] = api.Entry{Hi: hi, Lo: lo}
			Put(&s, false)
			same(t, "Put", s, want)
			want.Table[4] = api.Entry{Hi: hi, Lo: lo}
			Put(&s, true)
			same(t, "Put at Random", s, want)
		}
	}
}

// P7.2: what cp0.Write wrote and Put put, Get gets again, at each place.
func TestPutAndGet(t *testing.T) {
	s := crowded()
	for place := range uint32(8) {
		cp0.Write(&s, api.Index, place)
		cp0.Write(&s, api.EntryHi, all-place<<10)
		cp0.Write(&s, api.EntryLo, 0x5a5a5a5a+place<<10)
		Put(&s, false)
	}
	for place := range uint32(8) {
		cp0.Write(&s, api.Index, place)
		Get(&s)
		if hi, lo := cp0.Read(&s, api.EntryHi), cp0.Read(&s, api.EntryLo); hi != 0xfffffcff-place<<10 || lo != 0x5a5a5802+place<<10 {
			t.Errorf("Get of %d: %#x, %#x", place, hi, lo)
		}
	}
}

// P7.2: Probe of each place's page, whatever Index held: Index, and nothing else.
func TestProbe(t *testing.T) {
	for _, index := range []uint32{0, 3, 7, 8, top, all} {
		for place := range 8 {
			want := crowded()
			want.C0[0], want.C0[10] = index, pageOf(place)|0xc0
			s := want
			want.C0[0] = uint32(place)
			Probe(&s)
			same(t, "Probe", s, want)
		}
		for _, entryHi := range []uint32{pageOf(0) - 0x400 | 0xc0, pageOf(8) | 0xc0, pageOf(3) | 0xc1, pageOf(3), 0, 0xfffffcff} {
			want := crowded()
			want.C0[0], want.C0[10] = index, entryHi
			s := want
			want.C0[0] = 0x80000000
			Probe(&s)
			same(t, "Probe of none", s, want)
		}
	}
}

// P7.2: Probe of a page that is in two places, of a global one from another space, and of one whose first entry is of another space.
func TestProbeSeveral(t *testing.T) {
	for first := range 8 {
		for second := first + 1; second < 8; second++ {
			want := emptied()
			want.C0[10] = 0x5000 | 0x22
			want.Table[first] = api.Entry{Hi: 0x5000 | 0x22}
			want.Table[second] = api.Entry{Hi: 0x5000 | 0x22}
			s := want
			want.C0[0] = uint32(first)
			Probe(&s)
			same(t, "Probe of two", s, want)
			s.Table[first].Hi, want.Table[first].Hi = 0x5000|0x33, 0x5000|0x33
			want.C0[0] = uint32(second)
			Probe(&s)
			same(t, "Probe past another space", s, want)
			s.Table[first].Lo, want.Table[first].Lo = 4, 4
			want.C0[0] = uint32(first)
			Probe(&s)
			same(t, "Probe of a global one", s, want)
		}
	}
}

// P7.2: Probe with words of all kinds as EntryHi, against a search from the end, bit by bit.
func TestProbeAnywhere(t *testing.T) {
	for _, entryHi := range words() {
		for _, lo := range words() {
			for turned := -1; turned < 32; turned++ {
				want := crowded()
				want.C0[10] = entryHi
				want.Table[4] = api.Entry{Hi: entryHi, Lo: lo}
				if turned >= 0 {
					want.Table[4].Hi ^= 1 << turned
				}
				s := want
				want.C0[0] = 0x80000000
				if place := placeOf(want, entryHi); place >= 0 {
					want.C0[0] = uint32(place)
				}
				Probe(&s)
				same(t, "Probe", s, want)
			}
		}
	}
}

// P7.2: behind a Probe of none, Get and Put go by place 0; Probe finds what Put put.
func TestProbeAndGo(t *testing.T) {
	s := emptied()
	s.C0[0], s.C0[2], s.C0[10] = 5, 0x8003, 0x5000|0x44
	Probe(&s)
	if s.C0[0] != 0x80000000 {
		t.Fatalf("Probe of none: %#x", s.C0[0])
	}
	want := s
	want.Table[0] = api.Entry{Hi: 0x5044, Lo: 0x8003}
	Put(&s, false)
	same(t, "Put behind a Probe of none", s, want)
	s.C0[0] = 5
	want.C0[0] = 0
	Probe(&s)
	same(t, "Probe of what was put", s, want)
	s.C0[0], s.C0[10], s.C0[2] = 0x80000000, 0, 0
	want.C0[0] = 0x80000000
	Get(&s)
	same(t, "Get behind a Probe of none", s, want)
}

// P7.1, P7.2, R1: a nil State: zero values, and nothing is done.
func TestNil(t *testing.T) {
	for _, va := range words() {
		for _, store := range []bool{false, true} {
			if at, code, refill := Look(nil, va, store); at != 0 || code != 0 || refill {
				t.Errorf("Look(nil, %#x, %v): %#x, %d, %v", va, store, at, code, refill)
			}
		}
		if got := Find(nil, va); got != 0 {
			t.Errorf("Find(nil, %#x): %d", va, got)
		}
	}
	Get(nil)
	Put(nil, false)
	Put(nil, true)
	Probe(nil)
}

// P7.1, P7.2: the chapter's run and its examples.
func TestChapter(t *testing.T) {
	looks(t, cp0.Fresh(), 0x5000, false, 0, api.TLBL, true)
	s := cp0.Fresh()
	cp0.Write(&s, api.EntryHi, 0x5000)
	if Probe(&s); cp0.Read(&s, api.Index) != 0x80000000 {
		t.Errorf("Probe of none: %#x", cp0.Read(&s, api.Index))
	}
	s.Table[2], s.Table[5] = api.Entry{Hi: 0x5000, Lo: 0x8001}, api.Entry{Hi: 0x5000, Lo: 0x9001}
	finds(t, s, 0x5000, 2)
}
