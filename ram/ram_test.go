package ram

import (
	"bytes"
	"math"
	"math/rand"
	"slices"
	"testing"

	"pianola/api"
)

// filled is memory in which each byte tells something of its place, so that a byte too far is seen.
func filled(t *testing.T, pages int) (*Ram, []byte) {
	t.Helper()
	r := New(pages)
	b := make([]byte, r.Size())
	for i := range b {
		b[i] = byte(i*7 + i/256 + 1)
	}
	if !r.Put(0, b) {
		t.Fatal("Put of all memory: false")
	}
	return r, b
}

// has tells a memory that is not want.
func has(t *testing.T, r *Ram, want []byte, what string) {
	t.Helper()
	got, ok := r.Bytes(0, int(r.Size()))
	if !ok || !bytes.Equal(got, want) {
		t.Errorf("%s: memory is not as it must be", what)
	}
}

func toldIs(t *testing.T, r *Ram, what string, want ...int) {
	t.Helper()
	if got := r.Written(); !slices.Equal(got, want) {
		t.Errorf("%s: Written: %v, want %v", what, got, want)
	}
}

// P2.1: New, with numbers of pages below 1, between, and above MaxPages; all bytes are 0, no page is marked.
func TestNew(t *testing.T) {
	for _, c := range []struct{ pages, want int }{
		{math.MinInt, 1}, {math.MinInt32, 1}, {-1, 1}, {0, 1}, {1, 1}, {2, 2}, {63, 63}, {64, 64}, {65, 64}, {1 << 22, 64}, {1<<32 + 3, 64}, {math.MaxInt, 64},
	} {
		r := New(c.pages)
		size := c.want * api.Page
		if r.Size() != uint32(size) {
			t.Errorf("New(%d): Size %d, want %d", c.pages, r.Size(), size)
		}
		has(t, r, make([]byte, size), "New")
		if _, ok := r.Bytes(0, size+1); ok {
			t.Errorf("New(%d): there is more than Size", c.pages)
		}
		for page := -1; page <= c.want; page++ {
			if r.Marked(page) {
				t.Errorf("New(%d): page %d is marked", c.pages, page)
			}
		}
		toldIs(t, r, "New")
	}
}

// P2.1: two memories have nothing in common.
func TestApart(t *testing.T) {
	a, b := New(2), New(2)
	a.Mark(1)
	a.Store(1024, 4, 0xffffffff)
	has(t, b, make([]byte, 2048), "another memory")
	if b.Marked(1) {
		t.Error("another memory: marked")
	}
	toldIs(t, b, "another memory")
	toldIs(t, a, "the memory", 1)
}

// P2.1: Load of each number of bytes, the highest first.
func TestLoadRows(t *testing.T) {
	r := New(1)
	r.Put(0, []byte{0x81, 0x92, 0xa3, 0xb4, 0x05, 0x16, 0x27, 0x38})
	r.Put(1020, []byte{0xc1, 0xc2, 0xc3, 0xc4})
	for _, c := range []struct {
		at   uint32
		n    int
		want uint32
	}{
		{0, 1, 0x81}, {1, 1, 0x92}, {3, 1, 0xb4}, {7, 1, 0x38}, {0, 2, 0x8192}, {2, 2, 0xa3b4}, {6, 2, 0x2738}, {0, 4, 0x8192a3b4}, {4, 4, 0x05162738},
		{1020, 4, 0xc1c2c3c4}, {1022, 2, 0xc3c4}, {1023, 1, 0xc4},
	} {
		if got, ok := r.Load(c.at, c.n); !ok || got != c.want {
			t.Errorf("Load(%d, %d): %#x, %v, want %#x", c.at, c.n, got, ok, c.want)
		}
	}
}

// P2.1: Store writes the lowest bytes of v, the highest first, and none beside them.
func TestStoreRows(t *testing.T) {
	for _, c := range []struct {
		at   uint32
		n    int
		want []byte
	}{
		{0, 1, []byte{0x44}}, {1, 1, []byte{0x44}}, {1023, 1, []byte{0x44}}, {1024, 1, []byte{0x44}}, {2047, 1, []byte{0x44}},
		{0, 2, []byte{0x33, 0x44}}, {6, 2, []byte{0x33, 0x44}}, {1022, 2, []byte{0x33, 0x44}}, {2046, 2, []byte{0x33, 0x44}},
		{0, 4, []byte{0x11, 0x22, 0x33, 0x44}}, {1020, 4, []byte{0x11, 0x22, 0x33, 0x44}}, {2044, 4, []byte{0x11, 0x22, 0x33, 0x44}},
	} {
		r, want := filled(t, 2)
		copy(want[c.at:], c.want)
		if !r.Store(c.at, c.n, 0x11223344) {
			t.Errorf("Store(%d, %d): false", c.at, c.n)
		}
		has(t, r, want, "Store")
	}
}

// P2.1: what Load and Store refuse: numbers of bytes, no multiples, what is not all there; nothing is written then.
func TestLoadStoreRefused(t *testing.T) {
	r, before := filled(t, 2)
	r.Mark(0)
	r.Mark(1)
	r.Written()
	refused := func(at uint32, n int) {
		t.Helper()
		if v, ok := r.Load(at, n); ok || v != 0 {
			t.Errorf("Load(%d, %d): %#x, %v, want 0, false", at, n, v, ok)
		}
		if r.Store(at, n, 0x5a5a5a5a) {
			t.Errorf("Store(%d, %d): true", at, n)
		}
	}
	for _, n := range []int{0, 3, 5, 6, 7, 8, 16, -1, -2, -4, 1<<32 + 4, 1 << 32, math.MaxInt, math.MinInt, math.MinInt + 4} {
		for _, at := range []uint32{0, 4, 1024, 2044, 2048, math.MaxUint32} {
			refused(at, n)
		}
	}
	for _, at := range []uint32{1, 3, 5, 1023, 2045, 2047} {
		refused(at, 2)
	}
	for _, at := range []uint32{1, 2, 3, 5, 6, 7, 1022, 2042, 2045, 2046, 2047} {
		refused(at, 4)
	}
	for _, at := range []uint32{2048, 2052, 4096, 65536, 0x80000000, 0xfffffffc} {
		refused(at, 1)
		refused(at, 2)
		refused(at, 4)
	}
	refused(0xfffffffe, 2)
	refused(0xffffffff, 1)
	has(t, r, before, "refused stores")
	toldIs(t, r, "refused stores")
}

// P2.1: Bytes of any number from any place, if all are there, of none too.
func TestBytesRows(t *testing.T) {
	r, all := filled(t, 2)
	for _, c := range []struct {
		at   uint32
		n    int
		want bool
	}{
		{0, 0, true}, {5, 0, true}, {2047, 0, true}, {2048, 0, true}, {2049, 0, false}, {math.MaxUint32, 0, false}, {0, 1, true}, {3, 7, true}, {1023, 2, true},
		{0, 2048, true}, {1, 2047, true}, {2047, 1, true}, {0, 2049, false}, {1, 2048, false}, {2047, 2, false}, {2048, 1, false},
		{0, -1, false}, {5, -1, false}, {2048, -1, false}, {2049, -1, false}, {2049, -2, false}, {0, math.MinInt, false}, {math.MaxUint32, math.MinInt, false},
		{0, math.MaxInt, false}, {2048, math.MaxInt, false}, {math.MaxUint32, 1, false}, {math.MaxUint32, 2, false}, {math.MaxUint32, math.MaxInt, false}, {4, 1<<32 - 4, false}, {4, 1 << 32, false},
	} {
		got, ok := r.Bytes(c.at, c.n)
		if ok != c.want {
			t.Errorf("Bytes(%d, %d): %v", c.at, c.n, ok)
		}
		if !ok && len(got) != 0 {
			t.Errorf("Bytes(%d, %d): false, and %d bytes", c.at, c.n, len(got))
		}
		if ok && !bytes.Equal(got, all[c.at:int(c.at)+c.n]) {
			t.Errorf("Bytes(%d, %d): % x", c.at, c.n, got)
		}
	}
}

// P2.1: Put writes all its bytes and none beside them, or, if they are not all there, nothing.
func TestPutRows(t *testing.T) {
	for _, c := range []struct {
		at   uint32
		n    int
		want bool
	}{
		{0, 0, true}, {7, 0, true}, {2048, 0, true}, {2049, 0, false}, {math.MaxUint32, 0, false}, {0, 1, true}, {1, 5, true}, {1022, 4, true}, {1023, 1, true}, {1024, 1024, true},
		{0, 2048, true}, {2047, 1, true}, {2040, 8, true}, {2040, 9, false}, {2048, 1, false}, {0, 2049, false}, {1, 2048, false}, {math.MaxUint32, 1, false}, {0xfffffffe, 4, false},
	} {
		r, want := filled(t, 2)
		b := bytes.Repeat([]byte{0xee}, c.n)
		if got := r.Put(c.at, b); got != c.want {
			t.Errorf("Put(%d) of %d: %v", c.at, c.n, got)
		}
		if c.want {
			copy(want[c.at:], b)
		}
		has(t, r, want, "Put")
	}
}

// P2.1, R4: nil is a list of none.
func TestPutNil(t *testing.T) {
	r, before := filled(t, 1)
	for _, c := range []struct {
		at   uint32
		want bool
	}{{0, true}, {1023, true}, {1024, true}, {1025, false}, {math.MaxUint32, false}} {
		if r.Put(c.at, nil) != c.want || r.Put(c.at, []byte{}) != c.want {
			t.Errorf("Put(%d) of none: not %v", c.at, c.want)
		}
	}
	has(t, r, before, "Put of none")
}

// R2, R5: what is put is neither changed nor kept, its spare room included; what Bytes answers is new memory.
func TestNothingShared(t *testing.T) {
	r := New(1)
	room := []byte{9, 1, 2, 3, 9, 9}
	r.Put(4, room[1:4])
	if !bytes.Equal(room, []byte{9, 1, 2, 3, 9, 9}) {
		t.Errorf("Put changed what was handed in: % x", room)
	}
	room[1], room[2], room[3] = 7, 7, 7
	if v, _ := r.Load(4, 4); v != 0x01020300 {
		t.Errorf("Put kept what was handed in: %#x", v)
	}
	a, _ := r.Bytes(4, 3)
	b, _ := r.Bytes(4, 3)
	for i := range a[:cap(a)] {
		a[:cap(a)][i] = 0x55
	}
	r.Store(4, 1, 0x66)
	if v, _ := r.Load(4, 4); v != 0x66020300 || !bytes.Equal(b, []byte{1, 2, 3}) {
		t.Errorf("Bytes shares memory: %#x, % x", v, b)
	}
}

// P2.2, R2: what Written answers is new memory.
func TestWrittenIsNew(t *testing.T) {
	r := New(3)
	r.Mark(0)
	r.Mark(2)
	r.Put(0, make([]byte, 3072))
	first := r.Written()
	for i := range first[:cap(first)] {
		first[:cap(first)][i] = 99
	}
	toldIs(t, r, "an answer that was changed")
	r.Store(2048, 1, 0)
	toldIs(t, r, "an answer that was changed", 2)
	if first[0] != 99 {
		t.Error("a later call changed an earlier answer")
	}
}

// P2.2: Mark, Unmark, Marked, again and again, and of what is no page.
func TestMark(t *testing.T) {
	r := New(3)
	marked := func(what string, want ...int) {
		t.Helper()
		for page := -3; page <= 70; page++ {
			if r.Marked(page) != slices.Contains(want, page) {
				t.Errorf("%s: Marked(%d): %v", what, page, r.Marked(page))
			}
		}
	}
	r.Mark(2)
	marked("Mark", 2)
	r.Mark(0)
	r.Mark(0)
	marked("Mark twice", 0, 2)
	odd := []int{-1, -3, 3, 4, 63, 64, 256, 1 << 32, 1<<32 + 1, -1 << 32, math.MaxInt, math.MinInt}
	for _, page := range odd {
		r.Mark(page)
		if r.Marked(page) {
			t.Errorf("Marked(%d): true", page)
		}
	}
	marked("Mark of no page", 0, 2)
	for _, page := range odd {
		r.Unmark(page)
	}
	r.Unmark(1)
	marked("Unmark of no page", 0, 2)
	r.Unmark(0)
	marked("Unmark", 2)
	r.Unmark(0)
	r.Mark(1)
	r.Unmark(2)
	marked("Unmark twice", 1)
	r.Put(0, make([]byte, 3072))
	toldIs(t, r, "all written", 1)
}

// P2.2: the pages that a store or a put lies in, and those alone.
func TestWrittenPlaces(t *testing.T) {
	r := New(64)
	for page := range 64 {
		r.Mark(page)
	}
	for _, c := range []struct {
		at, n int
		want  []int
	}{
		{0, 1, []int{0}}, {1023, 1, []int{0}}, {1024, 1, []int{1}}, {1022, 2, []int{0}}, {1023, 2, []int{0, 1}}, {1024, 1024, []int{1}}, {1024, 1025, []int{1, 2}}, {1023, 1026, []int{0, 1, 2}},
		{64512, 1024, []int{63}}, {64511, 1025, []int{62, 63}}, {65535, 1, []int{63}}, {5000, 4096, []int{4, 5, 6, 7, 8}}, {65536, 0, nil}, {1024, 0, nil}, {0, 0, nil},
	} {
		if !r.Put(uint32(c.at), make([]byte, c.n)) {
			t.Errorf("Put(%d) of %d: false", c.at, c.n)
		}
		toldIs(t, r, "Put", c.want...)
		toldIs(t, r, "Written again")
	}
	for page := range 64 {
		for _, n := range []int{1, 2, 4} {
			r.Store(uint32(page*api.Page), n, 0)
			toldIs(t, r, "Store at a page's beginning", page)
			r.Store(uint32((page+1)*api.Page-n), n, 0)
			toldIs(t, r, "Store at a page's end", page)
		}
	}
}

// P2.2: rising, whatever the order of the writes, each page once.
func TestWrittenRises(t *testing.T) {
	r := New(5)
	for _, page := range []int{4, 0, 3, 1} {
		r.Mark(page)
	}
	for _, at := range []uint32{4096, 4100, 3072, 2048, 0, 8, 4096} {
		r.Store(at, 4, at)
	}
	toldIs(t, r, "stores in no order", 0, 3, 4)
	toldIs(t, r, "Written again")
}

// P2.2: a write of the same bytes is one; a look, a refused write and one of none are not.
func TestWrittenWhat(t *testing.T) {
	r, all := filled(t, 2)
	r.Mark(0)
	r.Mark(1)
	toldIs(t, r, "written ahead of Mark")
	v, _ := r.Load(8, 4)
	r.Store(8, 4, v)
	toldIs(t, r, "the same word", 0)
	r.Put(1030, all[1030:1033])
	toldIs(t, r, "the same bytes", 1)
	r.Load(0, 4)
	r.Bytes(0, 2048)
	r.Marked(0)
	r.Size()
	toldIs(t, r, "looks")
	r.Store(2, 4, 1)
	r.Store(0, 3, 1)
	r.Store(2048, 4, 1)
	r.Put(2047, []byte{1, 2})
	r.Put(0, nil)
	r.Put(1024, nil)
	r.Put(2048, nil)
	toldIs(t, r, "refused writes, and of none")
}

// P2.2: a page counts as written only if it was marked when it was written, and not unmarked since.
func TestWrittenWhenMarked(t *testing.T) {
	r := New(2)
	r.Store(0, 4, 1)
	r.Mark(0)
	toldIs(t, r, "written, then marked")
	r.Store(0, 4, 1)
	r.Mark(0)
	toldIs(t, r, "marked again behind the write", 0)
	r.Store(0, 4, 1)
	r.Unmark(0)
	toldIs(t, r, "unmarked behind the write")
	r.Mark(0)
	toldIs(t, r, "unmarked, asked, marked again")
	r.Store(0, 4, 1)
	r.Unmark(0)
	r.Mark(0)
	toldIs(t, r, "unmarked, marked again")
	r.Store(0, 4, 1)
	r.Unmark(0)
	r.Store(0, 4, 1)
	r.Mark(0)
	toldIs(t, r, "written while it was unmarked")
	r.Mark(1)
	r.Put(1000, make([]byte, 100))
	r.Unmark(0)
	r.Unmark(-1)
	r.Unmark(2)
	toldIs(t, r, "the other page unmarked", 1)
	r.Unmark(1)
	r.Put(0, make([]byte, 2048))
	toldIs(t, r, "none marked")
	r.Mark(1)
	r.Store(1024, 1, 0)
	toldIs(t, r, "marked anew", 1)
	if !r.Marked(1) {
		t.Error("Written took the mark away")
	}
}

// plain is memory as the chapter tells it, a byte and a page at a time.
type plain struct {
	cells           map[uint64]byte
	size            uint64
	marked, written map[int]bool
}

func (p *plain) put(at uint32, b []byte) bool {
	if uint64(at)+uint64(len(b)) > p.size {
		return false
	}
	for i, v := range b {
		place := uint64(at) + uint64(i)
		p.cells[place] = v
		if page := int(place / 1024); p.marked[page] {
			p.written[page] = true
		}
	}
	return true
}

func (p *plain) store(at uint32, n int, v uint32) bool {
	if n != 1 && n != 2 && n != 4 || int64(at)%int64(n) != 0 {
		return false
	}
	four := []byte{byte(v >> 24), byte(v >> 16), byte(v >> 8), byte(v)}
	return p.put(at, four[4-n:])
}

func (p *plain) take() []int {
	var pages []int
	for page := range p.written {
		pages = append(pages, page)
	}
	slices.Sort(pages)
	p.written = map[int]bool{}
	return pages
}

// P2.1, P2.2: a long row of calls, each held against plain memory.
func TestAgainstPlain(t *testing.T) {
	random := rand.New(rand.NewSource(2))
	for pages := 1; pages <= 6; pages++ {
		r := New(pages)
		p := &plain{map[uint64]byte{}, uint64(pages * 1024), map[int]bool{}, map[int]bool{}}
		for range 4000 {
			at := uint32(random.Intn(pages*1024 + 6))
			switch random.Intn(6) {
			case 0, 1:
				n, v := random.Intn(6), random.Uint32()
				if got, want := r.Store(at, n, v), p.store(at, n, v); got != want {
					t.Fatalf("Store(%d, %d): %v", at, n, got)
				}
			case 2:
				b := make([]byte, random.Intn(1200))
				random.Read(b)
				if got, want := r.Put(at, b), p.put(at, b); got != want {
					t.Fatalf("Put(%d) of %d: %v", at, len(b), got)
				}
			case 3:
				page := random.Intn(pages+2) - 1
				r.Mark(page)
				if page >= 0 && page < pages {
					p.marked[page] = true
				}
			case 4:
				page := random.Intn(pages+2) - 1
				r.Unmark(page)
				delete(p.marked, page)
				delete(p.written, page)
			case 5:
				toldIs(t, r, "a long row of calls", p.take()...)
			}
			compare(t, r, p, at)
		}
	}
}

// compare looks at the places behind at, and at the pages.
func compare(t *testing.T, r *Ram, p *plain, at uint32) {
	t.Helper()
	for n := 1; n <= 4; n *= 2 {
		want, there := uint32(0), int(at)%n == 0 && uint64(at)+uint64(n) <= p.size
		for i := 0; there && i < n; i++ {
			want = want*256 + uint32(p.cells[uint64(at)+uint64(i)])
		}
		if v, ok := r.Load(at, n); ok != there || v != want {
			t.Fatalf("Load(%d, %d): %#x, %v, want %#x, %v", at, n, v, ok, want, there)
		}
	}
	for page := -1; page <= int(p.size/1024); page++ {
		if r.Marked(page) != p.marked[page] {
			t.Fatalf("Marked(%d): %v", page, r.Marked(page))
		}
	}
}

// The chapter's run and its examples.
func TestChapter(t *testing.T) {
	r := New(1)
	if !r.Store(0, 4, 0x01020304) {
		t.Error("Store(0, 4, 0x01020304): false")
	}
	if v, ok := r.Load(1, 1); !ok || v != 0x02 {
		t.Errorf("Load(1, 1): %#x, %v", v, ok)
	}
	if _, ok := r.Load(2, 4); ok {
		t.Error("Load(2, 4): true")
	}
	if !r.Put(r.Size(), nil) {
		t.Error("Put of nothing at the end: false")
	}
}
