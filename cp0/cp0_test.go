package cp0

import (
	"math"
	"math/big"
	"math/rand"
	"slices"
	"testing"

	"pianola/api"
)

const (
	top = 0x80000000
	all = 0xffffffff
)

// crowded is a State in which each part holds something of its own, so that a call that turns too much is seen.
func crowded() api.State {
	s := api.State{Hi: 0x11111111, Lo: 0x22222222, PC: 0x1000, Next: 0x9000, Slot: true, Link: true, Linked: 0x33333333, Waits: true, Time: 77}
	for i := range s.R {
		s.R[i] = 0x5a000000 + uint32(i)
	}
	for i := range s.C0 {
		s.C0[i] = 0xa5a5c0c0 + uint32(i)<<16
	}
	for i := range s.Table {
		s.Table[i] = api.Entry{Hi: 0x71000000 + uint32(i), Lo: 0x72000000 + uint32(i)}
	}
	return s
}

// states are some to begin with: fresh, crowded, all bits, no bits.
func states() []api.State {
	full := crowded()
	for i := range full.C0 {
		full.C0[i] = all
	}
	bare := crowded()
	bare.C0 = [16]uint32{}
	bare.Slot, bare.Link, bare.Waits, bare.Time = false, false, false, 0
	return []api.State{Fresh(), crowded(), full, bare, {}}
}

// words are such as all bits, none, each bit alone, each bit missing, and some from anywhere.
func words() []uint32 {
	out := []uint32{0, all, 0x12345678, 0x87654321, 0xdeadbeef, 0x55555555, 0xaaaaaaaa}
	for bit := range 32 {
		out = append(out, 1<<bit, all^1<<bit)
	}
	random := rand.New(rand.NewSource(6))
	for range 20 {
		out = append(out, random.Uint32()>>random.Intn(32))
	}
	return out
}

// named are the numbers of registers that have a name.
func named() []int {
	return []int{0, 1, 2, 8, 9, 10, 11, 12, 13, 14, 15}
}

// numbers are numbers of registers and such as are none, some of them like one's in fewer bits.
func numbers() []int {
	out := []int{31, 32, 33, 63, 64, 127, 128, 255, math.MaxInt8, math.MaxInt16, math.MaxInt32, math.MinInt32, math.MaxInt, math.MinInt, math.MaxInt - 1}
	for n := -40; n <= 40; n++ {
		out = append(out, n)
	}
	for n := range 16 {
		out = append(out, 256+n, -256+n, 1<<16+n, 1<<32+n, -1<<32+n, math.MinInt+n)
	}
	return out
}

// bitsOf reads v bit by bit, so that no mask of the program plays a part.
func bitsOf(v uint32) [32]bool {
	var out [32]bool
	for bit := range out {
		out[bit] = v%2 == 1
		v /= 2
	}
	return out
}

func wordOf(bits [32]bool) uint32 {
	v := uint32(0)
	for bit := 31; bit >= 0; bit-- {
		v *= 2
		if bits[bit] {
			v++
		}
	}
	return v
}

// span is the bits from one to another, both with them.
func span(from, to int) []int {
	var out []int
	for bit := from; bit <= to; bit++ {
		out = append(out, bit)
	}
	return out
}

// mixed is old, with the places of v.
func mixed(old, v uint32, places []int) uint32 {
	was, is := bitsOf(old), bitsOf(v)
	for _, place := range places {
		was[place] = is[place]
	}
	return wordOf(was)
}

func has(v uint32, bit int) bool {
	return bitsOf(v)[bit]
}

// with is v with one bit as it is told.
func with(v uint32, bit int, up bool) uint32 {
	bits := bitsOf(v)
	bits[bit] = up
	return wordOf(bits)
}

func same(t *testing.T, what string, got, want api.State) {
	t.Helper()
	if got != want {
		t.Errorf("%s:\n got %#v\nwant %#v", what, got, want)
	}
}

// P6.1: Fresh whole, and each time a State of its own.
func TestFresh(t *testing.T) {
	var want api.State
	want.PC, want.Next = 0x80000400, 0x80000404
	want.C0[15] = 0x18000
	s := Fresh()
	same(t, "Fresh", s, want)
	s.C0[15], s.R[3], s.Table[7].Lo = 1, 1, 1
	same(t, "Fresh again", Fresh(), want)
	if User(&want) || Pending(&want) || Taken(&want) {
		t.Error("Fresh: in user mode, or interrupted")
	}
}

// P6.1: Read of each number, named or not, and of a State that stays as it was.
func TestRead(t *testing.T) {
	for _, before := range states() {
		for _, n := range numbers() {
			want := uint32(0)
			if slices.Contains(named(), n) {
				want = before.C0[n]
			}
			if n == 1 {
				want = before.C0[9] - before.C0[9]/8*8
			}
			s := before
			if got := Read(&s, n); got != want {
				t.Errorf("Read(%d): %#x, want %#x", n, got, want)
			}
			same(t, "behind Read", s, before)
		}
	}
}

// P6.1: Random goes with Count, by 8, whatever its own place holds.
func TestReadRandom(t *testing.T) {
	for _, c := range []struct{ count, want uint32 }{{0, 0}, {1, 1}, {7, 7}, {8, 0}, {9, 1}, {15, 7}, {16, 0}, {109, 5}, {top, 0}, {top + 3, 3}, {all, 7}, {all - 7, 0}} {
		for _, own := range []uint32{0, 5, all} {
			s := Fresh()
			s.C0[9], s.C0[1] = c.count, own
			if got := Read(&s, api.Random); got != c.want {
				t.Errorf("Random at Count %#x: %d, want %d", c.count, got, c.want)
			}
		}
	}
	s := Fresh()
	for count := range uint32(40) {
		if got := Read(&s, api.Random); got != count%8 {
			t.Errorf("Random behind %d steps: %d", count, got)
		}
		Go(&s, 1)
	}
}

// written is what register n holds behind a Write of v, by the places that the chapter gives it.
func written(n int, old, v uint32) uint32 {
	switch n {
	case 0:
		return mixed(0, v, span(0, 2))
	case 2:
		return mixed(0, v, append(span(0, 2), span(10, 31)...))
	case 10:
		return mixed(0, v, append(span(0, 7), span(10, 31)...))
	case 9, 11, 14:
		return v
	case 12:
		return mixed(0, v, append([]int{0, 1, 4}, span(8, 15)...))
	case 13:
		return mixed(old, v, []int{8, 9})
	}
	return old
}

// P6.1: Write of each number and each word, over each State: that register alone, and of Compare a bit of Cause.
func TestWrite(t *testing.T) {
	for _, before := range states() {
		for _, n := range numbers() {
			for _, v := range words() {
				want := before
				if n >= 0 && n < 16 {
					want.C0[n] = written(n, before.C0[n], v)
				}
				if n == 11 {
					want.C0[13] = with(want.C0[13], 15, false)
				}
				s := before
				if Write(&s, n, v); s != want {
					t.Fatalf("Write(%d, %#x): %x, want %x", n, v, s.C0, want.C0)
				}
			}
		}
	}
}

// P6.1: Write by rows that are written out, of a register that held all bits and one that held none.
func TestWriteRows(t *testing.T) {
	for _, c := range []struct {
		n              int
		old, v, become uint32
	}{
		{api.Index, 0, all, 7}, {api.Index, all, 0, 0}, {api.Index, top, 3, 3}, {api.Index, 0, top, 0}, {api.Index, all, 8, 0},
		{api.Random, 0, 5, 0}, {api.Random, all, 5, all}, {api.Random, 3, 0, 3},
		{api.EntryLo, 0, all, 0xfffffc07}, {api.EntryLo, all, 0, 0}, {api.EntryLo, all, 0x3f8, 0}, {api.EntryLo, 0, 0x407, 0x407},
		{api.BadVAddr, 0, all, 0}, {api.BadVAddr, 9, 0, 9},
		{api.Count, 0, all, all}, {api.Count, all, 0, 0},
		{api.EntryHi, 0, all, 0xfffffcff}, {api.EntryHi, all, 0, 0}, {api.EntryHi, all, 0x300, 0}, {api.EntryHi, 0, 0x4ff, 0x4ff},
		{api.Compare, 0, all, all}, {api.Compare, all, 0, 0},
		{api.Status, 0, all, 0xff13}, {api.Status, all, 0, 0}, {api.Status, 0, 0xffff00ec, 0}, {api.Status, 0xff13, 0x8011, 0x8011},
		{api.Cause, 0, all, 0x300}, {api.Cause, all, 0, 0xfffffcff}, {api.Cause, all, 0x100, 0xfffffdff}, {api.Cause, 0x80008500, 0x200, 0x80008600},
		{api.EPC, 0, all, all}, {api.EPC, all, 0, 0}, {api.EPC, 0, 3, 3},
		{api.PRId, 0x18000, 0, 0x18000}, {api.PRId, 0x18000, all, 0x18000}, {api.PRId, 0, all, 0},
	} {
		want := crowded()
		want.C0[c.n] = c.old
		s := want
		want.C0[c.n] = c.become
		if c.n == api.Compare {
			want.C0[api.Cause] &= 0xffff7fff
		}
		Write(&s, c.n, c.v)
		same(t, "Write", s, want)
	}
}

// P6.1: Compare lets the timer's line down, the value it had before too, and nothing else of Cause.
func TestWriteCompare(t *testing.T) {
	for _, cause := range words() {
		for _, v := range []uint32{0, 5, all} {
			s := Fresh()
			s.C0[api.Cause], s.C0[api.Compare], s.C0[api.Count] = cause, 5, v
			want := s
			want.C0[api.Compare], want.C0[api.Cause] = v, with(cause, 15, false)
			Write(&s, api.Compare, v)
			same(t, "Write(Compare)", s, want)
		}
	}
}

// P6.1: what was written is what is read, but for the bits that are not written.
func TestWriteThenRead(t *testing.T) {
	for _, n := range numbers() {
		for _, v := range words() {
			s := Fresh()
			before := Read(&s, n)
			want := before
			if slices.Contains(named(), n) && n != 1 {
				want = written(n, before, v)
			}
			Write(&s, n, v)
			if got := Read(&s, n); got != want {
				t.Errorf("Read(%d) behind Write(%#x): %#x, want %#x", n, v, got, want)
			}
		}
	}
}

// P6.2: User with each of UM and EXL, the other bits of Status all up or all down.
func TestUser(t *testing.T) {
	for _, c := range []struct{ um, exl, want bool }{{false, false, false}, {false, true, false}, {true, false, true}, {true, true, false}} {
		for _, before := range states() {
			for _, status := range words() {
				s := before
				s.C0[12] = with(with(status, 4, c.um), 1, c.exl)
				was := s
				if got := User(&s); got != c.want {
					t.Errorf("User with Status %#x: %v", s.C0[12], got)
				}
				same(t, "behind User", s, was)
			}
		}
	}
}

// entered is the State behind an exception, by the chapter's words.
func entered(s api.State, code int, refill bool) api.State {
	inside := has(s.C0[12], 1)
	if !inside {
		s.C0[14] = s.PC
		if s.Slot {
			s.C0[14] = uint32((uint64(s.PC) + 1<<32 - 4) % (1 << 32))
		}
		s.C0[13] = with(s.C0[13], 31, s.Slot)
	}
	for place := range 5 {
		s.C0[13] = with(s.C0[13], 2+place, code>>place%2 != 0)
	}
	s.C0[12] = with(s.C0[12], 1, true)
	s.PC, s.Next, s.Slot = 0x80000180, 0x80000184, false
	if refill && !inside {
		s.PC, s.Next = 0x80000000, 0x80000004
	}
	return s
}

// codes are each number of an exception, the others of 5 bits, and such as have more.
func codes() []int {
	out := []int{-1, -2, -32, 32, 33, 63, 64, 255, 1 << 29, 1 << 30, 1 << 32, 1<<32 + 5, 0x2aaaaaaa, math.MaxInt32, math.MinInt32, math.MaxInt, math.MinInt, math.MinInt + 9}
	for code := range 32 {
		out = append(out, code)
	}
	return out
}

func bothWays() []bool {
	return []bool{false, true}
}

// P6.2: Enter in and out of a slot, with EXL and without, with refill and without, each code, over each State.
func TestEnter(t *testing.T) {
	for _, before := range states() {
		for _, pc := range []uint32{0, 1, 3, 4, 8, 0x1000, 0x1002, 0x80000400, top, all - 3, all} {
			for _, slot := range bothWays() {
				for _, exl := range bothWays() {
					s := before
					s.PC, s.Slot, s.C0[12] = pc, slot, with(s.C0[12], 1, exl)
					enterEach(t, s)
				}
			}
		}
	}
}

func enterEach(t *testing.T, before api.State) {
	t.Helper()
	for _, code := range codes() {
		for _, refill := range bothWays() {
			s := before
			Enter(&s, code, refill)
			same(t, "Enter", s, entered(before, code, refill))
		}
	}
}

// P6.2: Enter turns of Cause BD and bits 2 to 6 alone, of Status EXL alone, whatever they held.
func TestEnterCauseAndStatus(t *testing.T) {
	for _, cause := range words() {
		for _, status := range words() {
			for _, slot := range bothWays() {
				s := crowded()
				s.Slot, s.C0[13], s.C0[12] = slot, cause, status
				want := entered(s, 21, true)
				Enter(&s, 21, true)
				same(t, "Enter", s, want)
			}
		}
	}
}

// P6.2: Enter by rows that are written out.
func TestEnterRows(t *testing.T) {
	for _, c := range []struct {
		status, cause uint32
		pc            uint32
		slot, refill  bool
		code          int
		epc, to       uint32
		becomes       uint32
	}{
		{0, 0, 0x1000, false, false, api.Sys, 0x1000, 0x80000180, 0x20},
		{0, 0, 0x1000, true, false, api.Sys, 0xffc, 0x80000180, 0x80000020},
		{0, 0, 0x1000, false, true, api.TLBL, 0x1000, 0x80000000, 0x08},
		{0, 0, 0x1000, true, true, api.TLBS, 0xffc, 0x80000000, 0x8000000c},
		{0, 0, 0, true, false, api.Int, 0xfffffffc, 0x80000180, 0x80000000},
		{0, 0, 3, true, false, api.AdEL, 0xffffffff, 0x80000180, 0x80000010},
		{0, all, 0x1000, false, false, api.Int, 0x1000, 0x80000180, 0x7fffff83},
		{0, all, 0x1000, true, false, api.Tr, 0xffc, 0x80000180, 0xffffffb7},
		{api.EXL, 0, 0x1000, true, true, api.TLBL, 77, 0x80000180, 0x08},
		{api.EXL, all, 0x1000, false, true, api.TLBL, 77, 0x80000180, 0xffffff8b},
		{api.EXL, 0x80000000, 0x1000, false, false, api.Ov, 77, 0x80000180, 0x80000030},
		{0, 0, 0x1000, false, false, 31, 0x1000, 0x80000180, 0x7c},
		{0, 0, 0x1000, false, false, 32, 0x1000, 0x80000180, 0},
		{0, 0, 0x1000, false, false, -1, 0x1000, 0x80000180, 0x7c},
	} {
		s := crowded()
		s.PC, s.Slot, s.C0[api.Status], s.C0[api.Cause], s.C0[api.EPC] = c.pc, c.slot, c.status, c.cause, 77
		want := s
		want.PC, want.Next, want.Slot = c.to, c.to+4, false
		want.C0[api.Status], want.C0[api.Cause], want.C0[api.EPC] = c.status|2, c.becomes, c.epc
		Enter(&s, c.code, c.refill)
		same(t, "Enter", s, want)
	}
}

// P6.2: an exception within an exception leaves the first one's way back, and its BD.
func TestEnterWithin(t *testing.T) {
	for _, slot := range bothWays() {
		s := Fresh()
		s.PC, s.Slot, s.C0[api.Status] = 0x2000, slot, api.UM|api.IE
		Enter(&s, api.TLBL, true)
		if User(&s) || s.PC != api.Refill {
			t.Errorf("Enter of a refill: %#v", s)
		}
		epc, bd := s.C0[api.EPC], has(s.C0[api.Cause], 31)
		s.PC, s.Slot = 0x80000010, !slot
		Enter(&s, api.TLBS, true)
		if s.PC != api.Vector || s.C0[api.EPC] != epc || has(s.C0[api.Cause], 31) != bd || bd != slot {
			t.Errorf("Enter within: %#v", s)
		}
		if s.C0[api.Cause]&0x7c != api.TLBS<<2 {
			t.Errorf("Enter within: Cause %x", s.C0[api.Cause])
		}
		Return(&s)
		if !User(&s) || s.PC != epc {
			t.Errorf("Return: %#v", s)
		}
	}
}

// P6.2: Bad with and without the table, each address over each State.
func TestBad(t *testing.T) {
	for _, before := range states() {
		for _, va := range words() {
			for _, hi := range words() {
				for _, table := range bothWays() {
					s := before
					s.C0[10] = hi
					want := s
					want.C0[8] = va
					if table {
						want.C0[10] = mixed(hi, va, span(10, 31))
					}
					Bad(&s, va, table)
					same(t, "Bad", s, want)
				}
			}
		}
	}
}

// P6.2: Bad by rows that are written out.
func TestBadRows(t *testing.T) {
	for _, c := range []struct {
		hi, va uint32
		table  bool
		become uint32
	}{
		{0xabcd04ff, 0x12345678, false, 0xabcd04ff}, {0xabcd04ff, 0x12345678, true, 0x123454ff}, {0, all, true, 0xfffffc00}, {all, 0, true, 0x3ff}, {0x5a, 0x3ff, true, 0x5a}, {0x5a, 0x400, true, 0x45a}, {all, 0x7ff, true, 0x7ff},
	} {
		s := crowded()
		s.C0[api.EntryHi] = c.hi
		want := s
		want.C0[api.BadVAddr], want.C0[api.EntryHi] = c.va, c.become
		Bad(&s, c.va, c.table)
		same(t, "Bad", s, want)
	}
}

// P6.2: Return over each State, with an exception ahead of it or without, whatever EPC and Status hold.
func TestReturn(t *testing.T) {
	for _, before := range states() {
		for _, epc := range words() {
			for _, status := range words() {
				s := before
				s.C0[14], s.C0[12] = epc, status
				want := s
				want.PC, want.Next = epc, uint32((uint64(epc)+4)%(1<<32))
				want.Slot, want.Link = false, false
				want.C0[12] = with(status, 1, false)
				Return(&s)
				same(t, "Return", s, want)
			}
		}
	}
}

// P6.2: into an exception and back: out of a slot to its branch, and all else as the exception left it.
func TestThereAndBack(t *testing.T) {
	for _, slot := range bothWays() {
		s := crowded()
		s.Slot, s.C0[12] = slot, 0xff11
		want := entered(s, api.Bp, false)
		want.PC, want.Next, want.Link = 0x1000, 0x1004, false
		if slot {
			want.PC, want.Next = 0xffc, 0x1000
		}
		want.C0[12] = 0xff11
		Enter(&s, api.Bp, false)
		Return(&s)
		same(t, "there and back", s, want)
		want.PC, want.Next = 0x80000180, 0x80000184
		want.C0[14], want.C0[13], want.C0[12] = s.PC, with(s.C0[13], 31, false), 0xff13
		Enter(&s, api.Bp, false)
		same(t, "and there again", s, want)
	}
}

// comes tells whether Count comes to Compare in these steps, by whole turns of numbers of any size.
func comes(count, compare uint32, steps int64) bool {
	turn := new(big.Int).Lsh(big.NewInt(1), 32)
	ahead := big.NewInt(int64(count) - int64(compare))
	behind := new(big.Int).Add(ahead, big.NewInt(steps))
	// Div rounds down, also below 0.
	return new(big.Int).Div(behind, turn).Cmp(new(big.Int).Div(ahead, turn)) > 0
}

// gone is the State behind steps of time, and what Go must tell.
func gone(s api.State, steps int64) (api.State, bool) {
	if steps < 1 {
		return s, false
	}
	hit := comes(s.C0[9], s.C0[11], steps)
	count := new(big.Int).Add(big.NewInt(int64(s.C0[9])), big.NewInt(steps))
	s.C0[9] = uint32(count.Mod(count, new(big.Int).Lsh(big.NewInt(1), 32)).Uint64())
	s.Time += steps
	if hit {
		s.C0[13] = with(s.C0[13], 15, true)
	}
	return s, hit
}

func goes(t *testing.T, before api.State, steps int64) {
	t.Helper()
	want, hit := gone(before, steps)
	s := before
	if got := Go(&s, steps); got != hit || s != want {
		t.Errorf("Go(%d) from %#x with Compare %#x: %v, %x, %d, want %v, %x, %d", steps, before.C0[9], before.C0[11], got, s.C0, s.Time, hit, want.C0, want.Time)
	}
}

// P6.3: Go by rows that are written out: just short of Compare, just to it, just past it, on the way past 2^32.
func TestGoRows(t *testing.T) {
	for _, c := range []struct {
		count, compare uint32
		steps          int64
		hit            bool
		becomes        uint32
	}{
		{0, 1, 1, true, 1}, {0, 1, 2, true, 2}, {0, 2, 1, false, 1}, {0, 2, 2, true, 2}, {0, 2, 3, true, 3},
		{10, 20, 9, false, 19}, {10, 20, 10, true, 20}, {10, 20, 11, true, 21}, {20, 10, 1 << 20, false, 20 + 1<<20},
		{20, 10, 1<<32 - 11, false, 9}, {20, 10, 1<<32 - 10, true, 10}, {20, 10, 1<<32 - 9, true, 11}, {20, 10, 1 << 32, true, 20},
		{5, 5, 1, false, 6}, {5, 5, 1<<32 - 1, false, 4}, {5, 5, 1 << 32, true, 5}, {5, 5, 1<<32 + 1, true, 6}, {0, 0, 1, false, 1}, {0, 0, 1 << 32, true, 0}, {all, all, 1, false, 0}, {all, all, 1 << 32, true, all},
		{all, 0, 1, true, 0}, {all - 1, 5, 6, false, 4}, {all - 1, 5, 7, true, 5}, {all - 1, all, 1, true, all}, {0, all, 1<<32 - 2, false, all - 1}, {0, all, 1<<32 - 1, true, all}, {top, 0, 1 << 31, true, 0}, {0, top, 1 << 31, true, top}, {0, top, 1<<31 - 1, false, top - 1},
		{0, 1, 0, false, 0}, {0, 1, -1, false, 0}, {1, 0, -1, false, 1}, {0, 1, math.MinInt64, false, 0}, {0, 1, -1 << 32, false, 0}, {0, 1, -1<<32 + 1, false, 0},
		{0, 9, 1 << 40, true, 0}, {3, 9, 1 << 50, true, 3}, {3, 9, 1<<50 - 77, true, all - 73}, {5, 5, 1<<50 - 77, true, all - 71},
	} {
		for _, cause := range []uint32{0, api.TimerLine, all, 0xffff7fff} {
			s := crowded()
			s.Time = 0
			s.C0[api.Count], s.C0[api.Compare], s.C0[api.Cause] = c.count, c.compare, cause
			want := s
			want.C0[api.Count] = c.becomes
			if c.steps > 0 {
				want.Time = c.steps
			}
			if c.hit {
				want.C0[api.Cause] = cause | 0x8000
			}
			if hit := Go(&s, c.steps); hit != c.hit {
				t.Errorf("Go(%d) from %#x with Compare %#x: %v", c.steps, c.count, c.compare, hit)
			}
			same(t, "Go", s, want)
		}
	}
}

// distances are numbers of steps around those that are missing, whole turns more, and such as are below 1.
func distances(count, compare uint32) []int64 {
	out := []int64{math.MinInt64, -1 << 33, -1 << 32, -5, -1, 0, 1, 2, 1 << 31, 1<<32 - 1, 1 << 32, 1<<32 + 1, 1 << 33, 1 << 41, 1<<50 - 100}
	missing := int64(compare - count)
	for beside := int64(-2); beside <= 2; beside++ {
		out = append(out, missing+beside, missing+1<<32+beside, missing+1<<40+beside)
	}
	return out
}

// P6.3: Go from each word to each other, with steps around what is missing, over each State.
func TestGoPairs(t *testing.T) {
	for _, before := range states() {
		for _, count := range words() {
			for _, compare := range words() {
				s := before
				s.C0[9], s.C0[11] = count, compare
				for _, steps := range distances(count, compare) {
					goes(t, s, steps)
				}
			}
		}
	}
}

// P6.3: the same steps at once, in two parts and one by one come to the same.
func TestGoInParts(t *testing.T) {
	for _, count := range []uint32{0, 1, 10, all - 20, all - 1, all} {
		for beside := uint32(0); beside < 40; beside++ {
			start := crowded()
			start.C0[api.Count], start.C0[api.Compare], start.C0[api.Cause] = count, count-3+beside, 0
			for steps := int64(1); steps < 50; steps++ {
				inParts(t, start, steps)
			}
		}
	}
}

func inParts(t *testing.T, start api.State, steps int64) {
	t.Helper()
	whole, single, halves := start, start, start
	want := Go(&whole, steps)
	hits := 0
	for range steps {
		if Go(&single, 1) {
			hits++
		}
	}
	first := Go(&halves, steps/2)
	second := Go(&halves, steps-steps/2)
	if (hits > 0) != want || hits > 1 || (first || second) != want || first && second {
		t.Errorf("%d steps from %#x with Compare %#x: %v at once, %d of single ones, %v and %v", steps, start.C0[9], start.C0[11], want, hits, first, second)
	}
	same(t, "one by one", single, whole)
	same(t, "in two parts", halves, whole)
}

// P6.3: the timer's line stays up till Compare is written, and Go tells each time that Count comes by.
func TestGoWithTheLineUp(t *testing.T) {
	s := Fresh()
	Write(&s, api.Compare, 4)
	for turn, c := range []struct {
		steps   int64
		hit, up bool
	}{{3, false, false}, {1, true, true}, {1, false, true}, {1<<32 - 2, false, true}, {1, true, true}} {
		if hit := Go(&s, c.steps); hit != c.hit || has(s.C0[api.Cause], 15) != c.up {
			t.Errorf("turn %d: %v, Cause %#x", turn, hit, s.C0[api.Cause])
		}
	}
	if Write(&s, api.Compare, 4); s.C0[api.Cause] != 0 {
		t.Errorf("Cause behind a Write of Compare: %#x", s.C0[api.Cause])
	}
	if Go(&s, 1) || s.C0[api.Cause] != 0 {
		t.Errorf("a step past Compare: Cause %#x", s.C0[api.Cause])
	}
}

// R6: beyond the bound Go ends; below 1 it does nothing, however far below.
func TestGoBeyondTheBound(t *testing.T) {
	for _, steps := range []int64{math.MaxInt64, math.MaxInt64 - 1, 1 << 62, 1 << 51} {
		for _, time := range []int64{0, 1, math.MaxInt64, math.MinInt64, -1} {
			s := crowded()
			s.Time = time
			Go(&s, steps)
			was := s
			if Go(&s, -steps) || s != was {
				t.Errorf("Go(%d): %#v", -steps, s)
			}
		}
	}
}

// P6.3: Pending and Taken with each two of IP and IM, each of IE and EXL, the bits beside them up and down.
func TestPendingAndTaken(t *testing.T) {
	for ip := range uint32(256) {
		for im := range uint32(256) {
			for low := range uint32(4) {
				for _, beside := range []uint32{0, 0xffff00fc} {
					s := crowded()
					s.C0[13], s.C0[12] = ip*256+beside, im*256+beside+low
					askedFor(t, s, shares(ip, im), low == 1)
				}
			}
		}
	}
}

// shares tells whether two rows of 8 bits have one together.
func shares(a, b uint32) bool {
	for place := range 8 {
		if has(a, place) && has(b, place) {
			return true
		}
	}
	return false
}

func askedFor(t *testing.T, s api.State, pending, open bool) {
	t.Helper()
	was := s
	if Pending(&s) != pending || Taken(&s) != (pending && open) {
		t.Errorf("Cause %#x, Status %#x: Pending %v, Taken %v", s.C0[13], s.C0[12], Pending(&s), Taken(&s))
	}
	if s != was {
		t.Errorf("behind Pending and Taken: %#v", s)
	}
}

// P6.3: bits of Cause and Status outside of IP and IM ask for nothing, though both have them.
func TestNothingBesideAsks(t *testing.T) {
	for bit := range 32 {
		s := Fresh()
		s.C0[13], s.C0[12] = 1<<bit, 1<<bit|1
		asked := bit >= 8 && bit <= 15
		if Pending(&s) != asked || Taken(&s) != asked {
			t.Errorf("bit %d: Pending %v, Taken %v", bit, Pending(&s), Taken(&s))
		}
	}
}

// P6.3: Line up and down, over each State and each Cause: that bit alone.
func TestLine(t *testing.T) {
	for _, before := range states() {
		for _, cause := range words() {
			for _, up := range bothWays() {
				s := before
				s.C0[13] = cause
				want := s
				want.C0[13] = with(cause, 10, up)
				Line(&s, up)
				same(t, "Line", s, want)
				Line(&s, up)
				same(t, "Line again", s, want)
			}
		}
	}
}

// P6.3: what a program asks for, the timer and the devices are taken, each by its own bit.
func TestAskedByEach(t *testing.T) {
	for _, c := range []struct {
		mask uint32
		ask  func(s *api.State)
		drop func(s *api.State)
	}{
		{0x100, func(s *api.State) { Write(s, api.Cause, 0x100) }, func(s *api.State) { Write(s, api.Cause, 0x200) }},
		{0x200, func(s *api.State) { Write(s, api.Cause, 0x200) }, func(s *api.State) { Write(s, api.Cause, 0x100) }},
		{0x400, func(s *api.State) { Line(s, true) }, func(s *api.State) { Line(s, false) }},
		{0x8000, func(s *api.State) { Write(s, api.Compare, s.C0[9]+1); Go(s, 1) }, func(s *api.State) { Write(s, api.Compare, 9) }},
	} {
		s := Fresh()
		Write(&s, api.Status, c.mask|api.IE)
		if c.ask(&s); !Pending(&s) || !Taken(&s) {
			t.Errorf("mask %#x: nothing is taken", c.mask)
		}
		Enter(&s, api.Int, false)
		if !Pending(&s) || Taken(&s) {
			t.Errorf("mask %#x: within an exception: Pending %v, Taken %v", c.mask, Pending(&s), Taken(&s))
		}
		Return(&s)
		Write(&s, api.Status, 0xff00-c.mask+api.IE)
		if Pending(&s) || Taken(&s) {
			t.Errorf("mask %#x: taken by another one", c.mask)
		}
		Write(&s, api.Status, c.mask|api.IE)
		if c.drop(&s); Pending(&s) || Taken(&s) {
			t.Errorf("mask %#x: still asked", c.mask)
		}
	}
}

// R1: a nil State: zero, false, nothing, whatever else is handed in.
func TestNil(t *testing.T) {
	for _, n := range numbers() {
		Write(nil, n, all)
		if got := Read(nil, n); got != 0 {
			t.Errorf("Read(nil, %d): %#x", n, got)
		}
	}
	for _, up := range bothWays() {
		for _, code := range codes() {
			Enter(nil, code, up)
		}
		Bad(nil, all, up)
		Line(nil, up)
	}
	Return(nil)
	for _, steps := range []int64{math.MinInt64, -1, 0, 1, 1 << 32, 1 << 50, math.MaxInt64} {
		if Go(nil, steps) {
			t.Errorf("Go(nil, %d): true", steps)
		}
	}
	if User(nil) || Pending(nil) || Taken(nil) {
		t.Error("a nil State: true")
	}
}

// The chapter's run and its examples.
func TestChapter(t *testing.T) {
	s := Fresh()
	if User(&s) {
		t.Error("Fresh: User")
	}
	Write(&s, api.Random, 5)
	same(t, "Write(Random, 5)", s, Fresh())
	s.C0[api.Compare] = 1
	if !Go(&s, 1) {
		t.Error("Go(1) with Compare 1: false")
	}
}
