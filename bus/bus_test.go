package bus

import (
	"bytes"
	"math"
	"math/bits"
	"slices"
	"testing"

	"pianola/api"
)

// Where the windows begin, and where the last one ends.
const (
	linesAt  = 0x1f000000
	timer0At = 0x1f000040
	timer1At = 0x1f000080
	uartAt   = 0x1f0000c0
	dmaAt    = 0x1f000100
	diskAt   = 0x1f000140
	endAt    = 0x1f000180
)

// none is the answer of Next where nothing is due.
const none = -1

// windows are where they begin, by number.
func windows() []uint32 {
	return []uint32{linesAt, timer0At, timer1At, uartAt, dmaAt, diskAt}
}

// wordsOf is how many words a window has, from its beginning on.
func wordsOf(window int) int {
	return []int{4, 3, 3, 3, 5, 4}[window]
}

// isWordAt tells whether a device has its word at at.
func isWordAt(at uint32) bool {
	for k, from := range windows() {
		for word := range wordsOf(k) {
			if at == from+uint32(word)*4 {
				return true
			}
		}
	}
	return false
}

// counts are numbers of bytes: those that there are, and others.
func counts() []int {
	return []int{4, 2, 1, 0, 3, 5, 6, 7, 8, 12, 16, 64, 1024, 1 << 16, 1<<32 + 1, 1<<32 + 2, 1<<32 + 4, math.MaxInt, -1, -2, -4, -8, -1 << 32, math.MinInt, math.MinInt + 4}
}

// values are some to store, each bit alone and missing among them.
func values() []uint32 {
	list := []uint32{0, 3, 5, 6, 7, 0x3e, 0x3f, 0x141, 0x01020304, 0xfffefdfc, math.MaxUint32}
	for bit := range 32 {
		list = append(list, 1<<bit, math.MaxUint32-1<<bit)
	}
	return list
}

// photo is an image of so many bytes in which bytes beside each other, and a page or a power of two apart, differ.
func photo(size int) []byte {
	row := make([]byte, size)
	for i := range row {
		row[i] = byte(1 + i%251 + i/251*3)
	}
	return row
}

// sectors is an image of so many bytes in which no two sectors are the same.
func sectors(size int) []byte {
	row := make([]byte, size)
	for i := range row {
		row[i] = byte(200 + i*5 + i/64*3)
	}
	return row
}

// fill has all bytes of a row anew, its spare room too.
func fill(row []byte) {
	for i := range row[:cap(row)] {
		row[:cap(row)][i] = 0xa5
	}
}

func same(t *testing.T, what string, got, want []byte) {
	t.Helper()
	if bytes.Equal(got, want) {
		return
	}
	if len(got) != len(want) {
		t.Fatalf("%s: %d bytes, want %d", what, len(got), len(want))
	}
	for i := range got {
		if got[i] != want[i] {
			t.Fatalf("%s: byte %d is %d, want %d", what, i, got[i], want[i])
		}
	}
}

// memory is all that memory holds.
func memory(b *Bus) []byte {
	row, _ := b.Ram().Bytes(0, int(b.Ram().Size()))
	return row
}

func memoryIs(t *testing.T, b *Bus, want []byte) {
	t.Helper()
	same(t, "memory", memory(b), want)
}

// puts stores a word of a device, which has it.
func puts(t *testing.T, b *Bus, at, v uint32, now int64) {
	t.Helper()
	if !b.Store(at, 4, v, now) {
		t.Fatalf("Store(%#x, 4, %#x, %d): false", at, v, now)
	}
}

// holds asks for a word of a device, which has it. The time that Load is given is told by two of lines' words alone, which are asked elsewhere.
func holds(t *testing.T, b *Bus, at, want uint32) {
	t.Helper()
	if got, ok := b.Load(at, 4, 0); got != want || !ok {
		t.Fatalf("Load(%#x, 4): %#x, %v, want %#x", at, got, ok, want)
	}
}

func fires(t *testing.T, b *Bus, now int64, want int) {
	t.Helper()
	if got := b.Fire(now); got != want {
		t.Fatalf("Fire(%d): %d, want %d", now, got, want)
	}
}

// due asks for the time of the first event, or none.
func due(t *testing.T, b *Bus, want int64) {
	t.Helper()
	for range 2 {
		got, ok := b.Next()
		if !ok && got == 0 {
			got = none
		}
		if got != want || ok != (want != none) {
			t.Fatalf("Next: %d, %v, want %d", got, ok, want)
		}
	}
}

func dueAll(t *testing.T, b *Bus, want ...api.Event) {
	t.Helper()
	if got := b.Events(); !slices.Equal(got, want) {
		t.Fatalf("%v is due, want %v", got, want)
	}
}

// asks tells which lines are up, and whether Raised goes with them; Raised is asked first, as a Load may have the lines anew.
func asks(t *testing.T, b *Bus, want uint32, raised bool) {
	t.Helper()
	if b.Raised() != raised {
		t.Fatalf("Raised: %v", !raised)
	}
	for range 2 {
		holds(t, b, linesAt, want)
	}
	if b.Raised() != raised {
		t.Fatalf("Raised, asked again: %v", !raised)
	}
}

// told is all that can be asked of a bus and that asking doesn't change.
type told struct {
	raised            bool
	words             [6][5]uint32 // none of the uart's first one, which is gone when it is asked
	next              int64
	events            []api.Event
	memory, disk, out []byte
}

func tell(t *testing.T, b *Bus) told {
	t.Helper()
	s := told{raised: b.Raised(), next: none}
	for k, from := range windows() {
		for word := range wordsOf(k) {
			at := from + uint32(word)*4
			if at == uartAt {
				continue
			}
			v, ok := b.Load(at, 4, 0)
			if !ok {
				t.Fatalf("Load(%#x, 4): false", at)
			}
			s.words[k][word] = v
		}
	}
	if at, ok := b.Next(); ok {
		s.next = at
	}
	s.events, s.memory, s.disk, s.out = b.Events(), memory(b), b.Disk(), b.Out()
	return s
}

// agrees holds what two tellings tell against each other.
func agrees(t *testing.T, got, want told) {
	t.Helper()
	if got.words != want.words {
		t.Fatalf("the words are %x, want %x", got.words, want.words)
	}
	if got.raised != want.raised {
		t.Fatalf("Raised: %v", got.raised)
	}
	if got.next != want.next || !slices.Equal(got.events, want.events) {
		t.Fatalf("%d is next, %v is due, want %d, %v", got.next, got.events, want.next, want.events)
	}
	same(t, "memory", got.memory, want.memory)
	same(t, "disk", got.disk, want.disk)
	same(t, "out", got.out, want.out)
}

// busy is a bus of 2 pages and 3 sectors of which all devices have something due and something done, and three bytes came.
func busy(t *testing.T) *Bus {
	t.Helper()
	b := New(2, photo(2048), sectors(170))
	for _, c := range [][3]uint32{
		{0, timer0At + 4, 3}, {0, timer0At, 3}, {0, timer1At + 4, 90}, {0, timer1At, 1},
		{1, uartAt, 'A'}, {1, uartAt, 'B'}, {1, uartAt + 8, 1},
		{2, dmaAt, 100}, {2, dmaAt + 4, 2000}, {2, dmaAt + 8, 9}, {2, dmaAt + 12, 1},
		{3, diskAt, 1}, {3, diskAt + 4, 200}, {3, diskAt + 8, 2},
		{4, linesAt + 4, 0x2a},
	} {
		puts(t, b, c[1], c[2], int64(c[0]))
	}
	fires(t, b, 35, 15) // at 3, 6 and so on, at 5, at 9 and 17, and at 35
	puts(t, b, dmaAt+12, 1, 36)
	puts(t, b, diskAt, 9, 36)
	puts(t, b, diskAt+8, 1, 36)
	puts(t, b, uartAt, 'C', 36)
	for _, v := range []byte("xyz") {
		b.Type(v)
	}
	dueAll(t, b, api.Event{At: 36, Device: 1, Seq: 16}, api.Event{At: 39, Device: 4, Seq: 17}, api.Event{At: 44, Device: 3, Seq: 19}, api.Event{At: 68, Device: 5, Seq: 18}, api.Event{At: 90, Device: 2, Seq: 1})
	return b
}

// pagesOf is how many pages there are of so many asked for.
func pagesOf(asked int) int {
	switch {
	case asked < 1:
		return 1
	case asked > 64:
		return 64
	}
	return asked
}

// P15.1: memory of that many pages, 1 to MaxPages, all 0.
func TestPages(t *testing.T) {
	list := []int{-1, -2, -64, -1 << 32, math.MinInt, math.MinInt + 1, 65, 66, 100, 128, 256, 1 << 16, 1<<32 + 2, math.MaxInt}
	for pages := range 65 {
		list = append(list, pages)
	}
	for _, pages := range list {
		b := New(pages, nil, nil)
		size := pagesOf(pages) * 1024
		if got := b.Ram().Size(); got != uint32(size) {
			t.Fatalf("New(%d): %d bytes, want %d", pages, got, size)
		}
		memoryIs(t, b, make([]byte, size))
	}
}

// P15.1, R4: image is in memory from 0 on, and 0 behind it; what does not fit is cut, also what is in its spare room.
func TestImage(t *testing.T) {
	for _, pages := range []int{-1, 0, 1, 2, 3, 5, 17, 63, 64, 65} {
		size := pagesOf(pages) * 1024
		for _, length := range []int{0, 1, 2, 3, 4, 5, 7, 64, 1000, 1023, 1024, 1025, size - 4, size - 2, size - 1, size, size + 1, size + 2, size + 1024, 3 * size, 1 << 17} {
			image := photo(length + 100)[:length]
			want := make([]byte, size)
			for i := 0; i < size && i < length; i++ {
				want[i] = image[i]
			}
			b := New(pages, image, nil)
			memoryIs(t, b, want)
			for _, at := range []int{0, 1, length - 1, length, size - 1} {
				if at >= 0 && at < size {
					if v, ok := b.Load(uint32(at), 1, 0); v != uint32(want[at]) || !ok {
						t.Fatalf("%d pages, %d bytes: Load(%d, 1): %d, %v", pages, length, at, v, ok)
					}
				}
			}
			if len(b.Disk()) > 0 {
				t.Fatal("the image is on the disk too")
			}
		}
	}
}

// P15.1, R4: nothing, nil or not, with room behind it or not, is an image of none, and a disk of none.
func TestOfNothing(t *testing.T) {
	nothing := [][]byte{nil, {}, make([]byte, 0, 100), photo(200)[:0], photo(200)[70:70]}
	for _, image := range nothing {
		for _, disk := range nothing {
			b := New(2, image, disk)
			memoryIs(t, b, make([]byte, 2048))
			if got := b.Disk(); len(got) != 0 {
				t.Fatalf("%d bytes of disk", len(got))
			}
			puts(t, b, diskAt+8, 1, 0)
			fires(t, b, 32, 1)
			holds(t, b, diskAt+12, 6)
		}
	}
}

// P15.1: the disk has as many sectors as it needs, MaxDisk at most, the last one filled with 0.
func TestDisk(t *testing.T) {
	for _, size := range []int{0, 1, 2, 63, 64, 65, 127, 128, 129, 640, 1000, 4031, 4032, 4033, 4095, 4096, 4097, 4160, 9999, 1 << 16, 1 << 20} {
		disk := sectors(size + 100)[:size]
		want := slices.Clone(disk)
		for len(want)%64 > 0 {
			want = append(want, 0)
		}
		want = want[:min(len(want), 4096)]
		b := New(1, []byte{7}, disk)
		same(t, "disk", b.Disk(), want)
		memoryIs(t, b, append([]byte{7}, make([]byte, 1023)...))
		if size == 0 {
			continue
		}
		last := uint32(len(want)/64 - 1)
		puts(t, b, diskAt, last, 0)
		puts(t, b, diskAt+4, 501, 0)
		puts(t, b, diskAt+8, 1, 0)
		fires(t, b, 32, 1)
		got, _ := b.Ram().Bytes(501, 64)
		same(t, "last sector", got, want[last*64:])
		puts(t, b, diskAt, last+1, 40)
		puts(t, b, diskAt+8, 1, 40)
		fires(t, b, 72, 1)
		holds(t, b, diskAt+12, 6)
	}
}

// P15.1, P15.2: at first the words are as their devices have them, nothing is due, asks or was put out, no page is marked.
func TestNew(t *testing.T) {
	b := New(3, photo(100), sectors(64))
	asks(t, b, 0, false)
	want := told{next: none, memory: append(photo(100), make([]byte, 2972)...), disk: sectors(64)}
	want.words[3][1] = 8
	agrees(t, tell(t, b), want)
	holds(t, b, uartAt, 0x100)
	for page := range 3 {
		if b.Ram().Marked(page) {
			t.Errorf("page %d is marked", page)
		}
		b.Ram().Mark(page)
	}
	if got := b.Ram().Written(); len(got) > 0 {
		t.Errorf("pages %v are written", got)
	}
	fires(t, b, 1<<41, 0)
	agrees(t, tell(t, b), want)
	puts(t, b, uartAt, 1, 0)
	dueAll(t, b, api.Event{At: 8, Device: 3, Seq: 0})
}

// P15.1: the chapter's run and its examples.
func TestRun(t *testing.T) {
	b := New(1, nil, nil)
	if v, ok := b.Load(api.Devices, 4, 0); v != 0 || !ok {
		t.Errorf("Load(Devices, 4, 0): %d, %v", v, ok)
	}
	if v, ok := b.Load(api.Devices+1, 1, 0); v != 0 || ok {
		t.Errorf("Load(Devices + 1, 1, 0): %d, %v", v, ok)
	}
	for _, n := range counts() {
		if b.Store(0xfffffffc, n, 1, 0) {
			t.Errorf("Store(0xfffffffc, %d): true", n)
		}
	}
}

// R2: image and disk, their spare room too, are neither changed by any call nor kept: what is done to them behind New is not seen.
func TestArgumentsStay(t *testing.T) {
	for _, size := range []int{1, 64, 500, 1023, 1024, 1025, 2000} {
		wholeImage, wholeDisk := photo(size+130), sectors(size+130)
		image, disk := wholeImage[:size:size+100], wholeDisk[:size:size+100]
		b := New(1, image, disk)
		everything(t, b, 0)
		fill(b.Out())
		fill(b.Disk())
		same(t, "image", wholeImage, photo(size+130))
		same(t, "disk", wholeDisk, sectors(size+130))
		before := tell(t, b)
		fill(image)
		fill(disk)
		agrees(t, tell(t, b), before)
		everything(t, b, 100)
		for _, row := range [][]byte{image[:cap(image)], disk[:cap(disk)]} {
			if bytes.Count(row, []byte{0xa5}) != len(row) {
				t.Fatal("an argument is changed")
			}
		}
	}
}

// everything has bytes stored, moved, read and written on all ways there are from now on, with what is due all done 100 later.
func everything(t *testing.T, b *Bus, now int64) {
	t.Helper()
	size := b.Ram().Size()
	for at := uint32(0); at < size; at += 8 {
		b.Store(at, 4, at*77, now)
	}
	for _, c := range [][2]uint32{
		{timer0At + 4, 30}, {timer0At, 3}, {uartAt, 'u'}, {uartAt, 'v'},
		{dmaAt, 1}, {dmaAt + 4, 501}, {dmaAt + 8, 200}, {dmaAt + 12, 1},
		{diskAt + 4, 90}, {diskAt + 8, 2},
	} {
		puts(t, b, c[0], c[1], now)
	}
	b.Type('w')
	b.Fire(now + 50)
	puts(t, b, diskAt+4, 700, now+50)
	puts(t, b, diskAt+8, 1, now+50)
	b.Fire(now + 100)
	puts(t, b, timer0At, 0, now+100)
	due(t, b, none)
}

// number reads n bytes plainly, or tells that they are none.
func number(row []byte, at uint32, n int) (uint32, bool) {
	if n != 1 && n != 2 && n != 4 || int(at)%n != 0 || int(at)+n > len(row) {
		return 0, false
	}
	v := uint32(0)
	for _, b := range row[at : int(at)+n] {
		v = v*256 + uint32(b)
	}
	return v, true
}

// P15.1: Load below memory's size is ram's, at each address, with each number of bytes; from there on nothing is loaded.
func TestLoadMemory(t *testing.T) {
	for _, pages := range []int{1, 2, 3, 64} {
		size := pages * 1024
		image := photo(size)
		b := New(pages, image, nil)
		for at := range uint32(size + 1100) {
			if pages == 64 && at > 1100 && at < uint32(size-1100) {
				continue
			}
			for _, n := range counts() {
				want, is := number(image, at, n)
				if got, ok := b.Load(at, n, 7); got != want || ok != is {
					t.Fatalf("%d pages: Load(%d, %d): %#x, %v, want %#x, %v", pages, at, n, got, ok, want, is)
				}
			}
		}
		memoryIs(t, b, image)
	}
}

// P15.1: Store below memory's size is ram's: the lowest bytes of the value at the address, and no others; what is refused stores nothing.
func TestStoreMemory(t *testing.T) {
	for _, pages := range []int{1, 2} {
		size := pages * 1024
		b := New(pages, photo(size), nil)
		want := photo(size)
		for at := range uint32(size + 1100) {
			for i, n := range counts() {
				v := at*0x01030507 + uint32(i)*0x11223344
				_, is := number(want, at, n)
				if ok := b.Store(at, n, v, 7); ok != is {
					t.Fatalf("%d pages: Store(%d, %d): %v", pages, at, n, ok)
				}
				for place := n - 1; is && place >= 0; place-- {
					want[int(at)+place] = byte(v)
					v /= 256
				}
				memoryIs(t, b, want)
			}
		}
		due(t, b, none)
	}
}

// P15.1: all values at the ends of memory of each size.
func TestStoreAtTheEnds(t *testing.T) {
	for pages := 1; pages <= 64; pages++ {
		b := New(pages, nil, nil)
		size := uint32(pages) * 1024
		want := make([]byte, size)
		for _, v := range values() {
			for _, at := range []uint32{0, size / 2, size - 4} {
				puts(t, b, at, v, 0)
				holds(t, b, at, v)
				want[at], want[at+1], want[at+2], want[at+3] = byte(v>>24), byte(v>>16), byte(v>>8), byte(v)
			}
			for _, n := range []int{1, 2, 4} {
				for at := size - uint32(n) + 1; at < size+8; at++ {
					if b.Store(at, n, v, 0) {
						t.Fatalf("%d pages: Store(%d, %d): true", pages, at, n)
					}
				}
			}
		}
		memoryIs(t, b, want)
	}
}

// P15.1: a Store into memory is seen in the pages that Ram tells; a Load, and what is refused, is not.
func TestPagesWritten(t *testing.T) {
	b := New(3, nil, nil)
	for page := range 3 {
		b.Ram().Mark(page)
	}
	b.Load(1024, 4, 0)
	b.Store(1026, 4, 1, 0)
	b.Store(3072, 4, 1, 0)
	b.Store(linesAt+4, 4, 1, 0)
	if got := b.Ram().Written(); len(got) > 0 {
		t.Errorf("pages %v are written", got)
	}
	b.Store(2048, 1, 0, 0)
	b.Store(1022, 2, 0, 0)
	if got := b.Ram().Written(); !slices.Equal(got, []int{0, 2}) {
		t.Errorf("pages %v are written", got)
	}
	puts(t, b, dmaAt+4, 1500, 0)
	puts(t, b, dmaAt+8, 1, 0)
	puts(t, b, dmaAt+12, 1, 0)
	fires(t, b, 1, 1)
	if got := b.Ram().Written(); !slices.Equal(got, []int{1}) {
		t.Errorf("pages %v are written by dma", got)
	}
}

// near are all addresses from ahead of the windows to behind them.
func near() []uint32 {
	var list []uint32
	for at := uint32(linesAt - 150); at < endAt+150; at++ {
		list = append(list, at)
	}
	return list
}

// far are addresses at which there is nothing: a word's with one bit lost or more, about the bound of each power of two, and the greatest.
func far() []uint32 {
	var list []uint32
	for k, from := range windows() {
		for word := range wordsOf(k) {
			for bit := range 32 {
				at := (from + uint32(word)*4) ^ 1<<bit
				if (at < linesAt || at >= endAt) && at >= 1<<16 {
					list = append(list, at)
				}
			}
		}
	}
	for bit := 16; bit < 32; bit++ {
		for at := uint32(1)<<bit - 8; at != 1<<bit+260; at++ {
			if at >= 1<<16 {
				list = append(list, at)
			}
		}
	}
	for at := uint32(math.MaxUint32 - 400); at != 0; at++ {
		list = append(list, at)
	}
	return list
}

// P15.1, R3: each word of each device is there with 4 bytes, and at no other address, with no other number of bytes; beside a false there is 0.
func TestLoadWindows(t *testing.T) {
	for _, b := range []*Bus{New(1, nil, nil), New(64, photo(1<<16), sectors(4096)), busy(t)} {
		for _, at := range near() {
			for _, n := range counts() {
				if v, ok := b.Load(at, n, 12345); ok != (n == 4 && isWordAt(at)) || !ok && v != 0 {
					t.Fatalf("Load(%#x, %d): %#x, %v", at, n, v, ok)
				}
			}
		}
	}
}

// P15.1, R3: a refused Load changes nothing: no byte that came is taken by one of fewer bytes, or at an address beside.
func TestRefusedLoads(t *testing.T) {
	b := busy(t)
	before := tell(t, b)
	for _, at := range append(near(), far()...) {
		for _, n := range counts() {
			if n == 4 && isWordAt(at) {
				continue
			}
			if v, ok := b.Load(at, n, 40); v != 0 || ok {
				t.Fatalf("Load(%#x, %d): %#x, %v", at, n, v, ok)
			}
		}
		if at%64 == 0 {
			agrees(t, tell(t, b), before)
		}
	}
	agrees(t, tell(t, b), before)
	for _, want := range []uint32{'x', 'y', 'z', 0x100} {
		holds(t, b, uartAt, want)
	}
}

// P15.1, R3: a refused Store changes nothing: no word, no line, no event, nor its number, no byte.
func TestRefusedStores(t *testing.T) {
	b := busy(t)
	before := tell(t, b)
	for i, at := range append(near(), far()...) {
		for _, n := range counts() {
			if n == 4 && isWordAt(at) {
				continue
			}
			for _, v := range []uint32{0, 1, 7, math.MaxUint32} {
				if b.Store(at, n, v, 40) {
					t.Fatalf("Store(%#x, %d, %#x): true", at, n, v)
				}
			}
		}
		if i < 700 || at%64 == 0 {
			agrees(t, tell(t, b), before)
		}
	}
	agrees(t, tell(t, b), before)
	puts(t, b, timer1At, 1, 40)
	if e := b.Events(); e[len(e)-1] != (api.Event{At: 130, Device: 2, Seq: 20}) {
		t.Fatalf("%v is due", e)
	}
}

// P15.1: the last byte ahead of a window, the last word of one and the first one of the next.
func TestEdgesOfWindows(t *testing.T) {
	for _, c := range []struct {
		at uint32
		n  int
		ok bool
	}{
		{linesAt - 64, 4, false}, {linesAt - 4, 4, false}, {linesAt - 1, 1, false}, {linesAt, 4, true}, {linesAt + 12, 4, true}, {linesAt + 16, 4, false},
		{timer0At - 4, 4, false}, {timer0At, 4, true}, {timer0At + 8, 4, true}, {timer0At + 12, 4, false}, {timer1At - 4, 4, false},
		{timer1At, 4, true}, {timer1At + 8, 4, true}, {timer1At + 12, 4, false}, {uartAt - 4, 4, false},
		{uartAt, 4, true}, {uartAt + 8, 4, true}, {uartAt + 12, 4, false}, {dmaAt - 4, 4, false},
		{dmaAt, 4, true}, {dmaAt + 16, 4, true}, {dmaAt + 20, 4, false}, {diskAt - 4, 4, false},
		{diskAt, 4, true}, {diskAt + 12, 4, true}, {diskAt + 16, 4, false}, {endAt - 4, 4, false}, {endAt, 4, false}, {endAt + 4, 4, false}, {endAt + 64, 4, false},
		{linesAt, 8, false}, {linesAt + 2, 2, false}, {linesAt + 2, 4, false}, {linesAt + 3, 1, false}, {diskAt + 14, 4, false},
		{0xfffffffc, 4, false}, {0xfffffffd, 4, false}, {0xffffffff, 4, false}, {0xffffffff, 1, false}, {0xfffffffe, 2, false},
	} {
		b := New(2, nil, nil)
		if _, ok := b.Load(c.at, c.n, 0); ok != c.ok {
			t.Errorf("Load(%#x, %d): %v", c.at, c.n, ok)
		}
		if ok := b.Store(c.at, c.n, 0, 0); ok != c.ok {
			t.Errorf("Store(%#x, %d): %v", c.at, c.n, ok)
		}
	}
}

// P15.1: what is stored into each word is what the device keeps of it, and no other word changes.
func TestEachItsWords(t *testing.T) {
	// By window and word: the bits that are kept; the others only start, forget or tell something.
	kept := [6][5]uint32{{0, 0x3e}, {3, math.MaxUint32}, {3, math.MaxUint32}, {0, 0, 3}, {math.MaxUint32, math.MaxUint32, math.MaxUint32}, {math.MaxUint32, math.MaxUint32, math.MaxUint32}}
	for k, from := range windows() {
		for word := range wordsOf(k) {
			for _, v := range values() {
				b := New(1, nil, sectors(64))
				puts(t, b, from+uint32(word)*4, v, 5)
				got := tell(t, b).words
				want := [6][5]uint32{}
				want[3][1] = 8
				want[k][word] |= v & kept[k][word]
				switch {
				case k == 3 && word == 0:
					want[3][1] = 0
				case k == 4 && word == 3 && v%2 == 1:
					want[4][4] = 1
				case k == 5 && word == 2:
					want[5][3] = 1
				case k == 3 && word == 2 && v&2 != 0:
					want[0][0] = 8
				}
				if got != want {
					t.Fatalf("%#x in word %d of window %d: the words are %x, want %x", v, word, k, got, want)
				}
			}
		}
	}
}

// P15.1: the time that Load is given is what lines tells, by halves, and no device's word goes by it.
func TestTimeOfLoad(t *testing.T) {
	b := busy(t)
	before := tell(t, b)
	for _, now := range []int64{0, 1, 40, 1<<31 - 1, 1 << 31, 1<<32 - 1, 1 << 32, 0x0102030405, 1<<40 + 7, 1 << 41} {
		low, ok := b.Load(linesAt+8, 4, now)
		high, is := b.Load(linesAt+12, 4, now)
		if !ok || !is || int64(low)+int64(high)*(1<<32) != now {
			t.Errorf("at %d: %#x, %#x", now, high, low)
		}
		for _, at := range []uint32{linesAt, linesAt + 4, timer0At, timer0At + 8, uartAt + 4, dmaAt + 16, diskAt + 12} {
			first, _ := b.Load(at, 4, 0)
			if v, ok := b.Load(at, 4, now); v != first || !ok {
				t.Errorf("at %d: Load(%#x): %#x, %v, want %#x", now, at, v, ok, first)
			}
		}
	}
	agrees(t, tell(t, b), before)
}

// P15.1: each device is armed from the time that Store is given, and its events bear its number.
func TestEventsOfEach(t *testing.T) {
	for _, now := range []int64{0, 1, 100, 1<<32 - 1, 1 << 32, 1 << 40, 1<<41 - 64} {
		for _, c := range []struct {
			at, v  uint32
			device int
			behind int64
		}{
			{timer0At, 1, 1, 21}, {timer0At, 3, 1, 21}, {timer1At, 1, 2, 22}, {timer1At, 3, 2, 22}, {uartAt, 'A', 3, 8},
			{dmaAt + 12, 1, 4, 11}, {diskAt + 8, 1, 5, 32}, {diskAt + 8, 2, 5, 32}, {diskAt + 8, 9, 5, 32},
		} {
			b := New(1, nil, nil)
			puts(t, b, timer0At+4, 21, now)
			puts(t, b, timer1At+4, 22, now)
			puts(t, b, dmaAt+8, 40, now)
			dueAll(t, b)
			puts(t, b, c.at, c.v, now)
			dueAll(t, b, api.Event{At: now + c.behind, Device: c.device, Seq: 0})
			due(t, b, now+c.behind)
			fires(t, b, now+c.behind-1, 0)
			fires(t, b, now+c.behind, 1)
			if c.v == 3 {
				dueAll(t, b, api.Event{At: now + 2*c.behind, Device: c.device, Seq: 1})
			} else {
				dueAll(t, b)
			}
		}
	}
}

// P15.1, P15.2: all devices due at once: Events tells them by At, then by the row in which they were armed, and Next the first.
func TestNext(t *testing.T) {
	b := New(1, nil, nil)
	due(t, b, none)
	puts(t, b, diskAt+8, 1, 0)
	due(t, b, 32)
	puts(t, b, timer1At+4, 32, 0)
	puts(t, b, timer1At, 1, 0)
	due(t, b, 32)
	puts(t, b, uartAt, 'A', 20)
	due(t, b, 28)
	puts(t, b, dmaAt+8, 44, 20)
	puts(t, b, dmaAt+12, 1, 20)
	puts(t, b, timer0At, 1, 24)
	due(t, b, 25)
	dueAll(t, b, api.Event{At: 25, Device: 1, Seq: 4}, api.Event{At: 28, Device: 3, Seq: 2}, api.Event{At: 32, Device: 5, Seq: 0}, api.Event{At: 32, Device: 2, Seq: 1}, api.Event{At: 32, Device: 4, Seq: 3})
	puts(t, b, timer0At, 0, 24)
	due(t, b, 28)
	fires(t, b, 30, 1)
	due(t, b, 32)
	fires(t, b, 32, 3)
	due(t, b, none)
	dueAll(t, b)
}

// start has the device come due within 50, or, of the uart, a byte come for which it asks at once.
func start(t *testing.T, b *Bus, device int, now int64) {
	t.Helper()
	switch device {
	case 1, 2:
		puts(t, b, uint32(linesAt+device*64), 1, now)
	case 3:
		puts(t, b, uartAt+8, 1, now)
		b.Type('x')
	case 4:
		puts(t, b, dmaAt+12, 1, now)
	case 5:
		puts(t, b, diskAt+8, 1, now)
	}
}

// raise has the device's line up by Fire, or by Type, from when all lines are down and nothing is due.
func raise(t *testing.T, b *Bus, device int, now int64) {
	t.Helper()
	start(t, b, device, now)
	if device == 3 {
		return
	}
	asks(t, b, 0, false)
	at, _ := b.Next()
	fires(t, b, at, 1)
}

// lower has the device's line down again.
func lower(t *testing.T, b *Bus, device int, now int64) {
	t.Helper()
	switch device {
	case 1, 2:
		puts(t, b, uint32(linesAt+device*64+8), 1, now)
	case 3:
		holds(t, b, uartAt, 'x')
	case 4:
		puts(t, b, dmaAt+16, 6, now)
	case 5:
		puts(t, b, diskAt+12, 6, now)
	}
}

// P15.1, P15.2: each line by itself, with each of those that may be enabled: Raised tells it if it is enabled, as soon as it is up, and until it is down.
func TestRaised(t *testing.T) {
	for device := 1; device <= 5; device++ {
		bit := uint32(1) << device
		for enabled := range uint32(64) {
			b := New(1, nil, sectors(64))
			puts(t, b, linesAt+4, enabled, 0)
			for round := range int64(3) {
				now := round*100 + 50
				asks(t, b, 0, false)
				raise(t, b, device, round*100)
				asks(t, b, bit, enabled&bit != 0)
				puts(t, b, linesAt+4, 63-enabled, now)
				asks(t, b, bit, enabled&bit == 0)
				puts(t, b, linesAt+4, enabled, now)
				asks(t, b, bit, enabled&bit != 0)
				lower(t, b, device, now)
			}
			asks(t, b, 0, false)
		}
	}
}

// P15.2: all lines that may be up together, up one behind the other, and down again.
func TestRaisedTogether(t *testing.T) {
	for wanted := range uint32(32) {
		b := New(1, nil, sectors(64))
		up := uint32(0)
		for device := 1; device <= 5; device++ {
			if wanted>>(device-1)&1 != 0 {
				start(t, b, device, 0)
			}
		}
		b.Fire(50)
		for device := 1; device <= 5; device++ {
			up |= wanted >> (device - 1) & 1 << device
		}
		asks(t, b, up, false)
		puts(t, b, linesAt+4, 0x3e, 50)
		asks(t, b, up, up != 0)
		for device := 5; device >= 1; device-- {
			if up>>device&1 != 0 {
				lower(t, b, device, 50)
				up &^= 1 << device
				asks(t, b, up, up != 0)
			}
		}
	}
}

// P15.1: lines has each Line behind each Store: of a word that turns it, up and down, and not of one that doesn't.
func TestLinesBehindStore(t *testing.T) {
	b := New(1, nil, sectors(64))
	puts(t, b, linesAt+4, 0x3e, 0)
	for _, c := range []struct {
		at, v uint32
		up    uint32
	}{
		{uartAt + 8, 2, 8}, {uartAt + 8, 0, 0}, {uartAt + 8, 3, 8}, {uartAt, 'A', 0}, {uartAt + 8, 1, 0}, {uartAt + 8, 2, 0}, {linesAt, 0x3e, 0}, {linesAt + 4, 0x3e, 0},
	} {
		puts(t, b, c.at, c.v, 0)
		asks(t, b, c.up, c.up != 0)
	}
	fires(t, b, 8, 1)
	asks(t, b, 8, true)
	for range 2 {
		puts(t, b, linesAt, 0, 9)
		puts(t, b, linesAt, math.MaxUint32, 9)
		asks(t, b, 8, true)
	}
	puts(t, b, diskAt+8, 7, 9)
	puts(t, b, dmaAt+12, 1, 9)
	puts(t, b, timer0At, 1, 9)
	puts(t, b, timer1At, 1, 9)
	asks(t, b, 8, true)
	fires(t, b, 9, 0)
	asks(t, b, 8, true)
	fires(t, b, 41, 4)
	asks(t, b, 0x3e, true)
	for _, c := range [][3]uint32{
		{timer0At + 8, 2, 0x3e}, {timer0At + 8, 1, 0x3c}, {timer1At + 8, 1, 0x38}, {dmaAt + 16, 1, 0x38}, {dmaAt + 16, 2, 0x28},
		{diskAt + 12, 2, 0x28}, {diskAt + 12, 1, 0x28}, {diskAt + 12, 4, 8}, {uartAt + 8, 1, 0},
	} {
		puts(t, b, c[0], c[1], 41)
		asks(t, b, c[2], c[2] != 0)
	}
}

// P15.1: lines has each Line behind each Load: one that takes the last byte that came has the uart's down, and no other.
func TestLinesBehindLoad(t *testing.T) {
	b := New(1, nil, nil)
	puts(t, b, linesAt+4, 0x3e, 0)
	puts(t, b, uartAt+8, 1, 0)
	for came := range 20 {
		for range came {
			b.Type('x')
		}
		for left := min(came, 16); left > 0; left-- {
			asks(t, b, 8, true)
			holds(t, b, uartAt, 'x')
		}
		asks(t, b, 0, false)
		holds(t, b, uartAt, 0x100)
		asks(t, b, 0, false)
	}
	puts(t, b, timer0At, 1, 0)
	fires(t, b, 1, 1)
	b.Type('y')
	asks(t, b, 10, true)
	holds(t, b, uartAt, 'y')
	asks(t, b, 2, true)
}

// P15.2: lines has each Line behind Type, if the uart asks for it.
func TestLinesBehindType(t *testing.T) {
	for control := range uint32(4) {
		for enabled := range uint32(64) {
			b := New(1, nil, nil)
			puts(t, b, linesAt+4, enabled, 0)
			puts(t, b, uartAt+8, control, 0)
			up := control & 2 * 4
			asks(t, b, up, enabled&up != 0)
			b.Type(0)
			if control&1 != 0 {
				up = 8
			}
			asks(t, b, up, enabled&up != 0)
		}
	}
}

// P15.2: each byte, as many as the uart holds, and more: they come in their row, and those beyond are lost.
func TestType(t *testing.T) {
	for count := range 40 {
		b := New(1, nil, nil)
		for i := range count {
			b.Type(byte(i*7 + count))
		}
		status := uint32(8)
		if count > 0 {
			status |= 1
		}
		if count > 16 {
			status |= 4
		}
		holds(t, b, uartAt+4, status)
		for i := range min(count, 16) {
			holds(t, b, uartAt, uint32(byte(i*7+count)))
		}
		holds(t, b, uartAt, 0x100)
		holds(t, b, uartAt+4, status&^1)
		puts(t, b, uartAt+4, 4, 0)
		holds(t, b, uartAt+4, 8)
		if len(b.Out()) > 0 {
			t.Fatal("what came is put out")
		}
		due(t, b, none)
	}
	b := New(1, nil, nil)
	for v := range 256 {
		b.Type(byte(v))
		holds(t, b, uartAt, uint32(v))
	}
}

// P15.2: Fire with nothing due, with nothing due yet, with one event and with several, at times one behind the other.
func TestFire(t *testing.T) {
	b := New(1, nil, nil)
	fires(t, b, 0, 0)
	fires(t, b, 0, 0)
	puts(t, b, timer0At+4, 10, 0)
	puts(t, b, timer0At, 1, 0)
	fires(t, b, 0, 0)
	fires(t, b, 9, 0)
	asks(t, b, 0, false)
	due(t, b, 10)
	fires(t, b, 10, 1)
	asks(t, b, 2, false)
	fires(t, b, 10, 0)
	fires(t, b, 11, 0)
	puts(t, b, timer0At, 1, 11)
	puts(t, b, timer1At+4, 10, 11)
	puts(t, b, timer1At, 1, 11)
	puts(t, b, uartAt, 'A', 13)
	puts(t, b, dmaAt+12, 1, 24)
	puts(t, b, diskAt+8, 1, 11)
	fires(t, b, 20, 0)
	fires(t, b, 21, 3)
	asks(t, b, 6, false)
	fires(t, b, 24, 0)
	fires(t, b, 25, 1)
	asks(t, b, 0x16, false)
	fires(t, b, 42, 0)
	fires(t, b, 1000, 1)
	asks(t, b, 0x36, false)
	due(t, b, none)
	if got := string(b.Out()); got != "A" {
		t.Errorf("Out: %q", got)
	}
}

// P15.2: of a disk that reads and a mover that takes what it read, the one is done first that is due first; of one time, that was armed first.
func TestFireInRow(t *testing.T) {
	for _, c := range []struct {
		disk, dma int64 // when each is started
		moved     bool  // did the mover find what the disk read?
	}{
		{0, 0, false}, {0, 14, false}, {0, 15, true}, {0, 16, true}, {0, 100, true}, {5, 5, false}, {5, 19, false}, {5, 20, true},
	} {
		b := New(1, nil, sectors(64))
		puts(t, b, diskAt+4, 100, c.disk)
		puts(t, b, dmaAt, 100, c.disk)
		puts(t, b, dmaAt+4, 500, c.disk)
		puts(t, b, dmaAt+8, 64, c.disk)
		puts(t, b, diskAt+8, 1, c.disk)
		puts(t, b, dmaAt+12, 1, c.dma)
		want := make([]byte, 1024)
		copy(want[100:], sectors(64))
		if c.moved {
			copy(want[500:], sectors(64))
		}
		fires(t, b, 1000, 2)
		memoryIs(t, b, want)
	}
}

// P15.2: of one time the one is done first that was armed first, whatever its number: the disk writes what the mover put, or what was there.
func TestFireInRowOfOneTime(t *testing.T) {
	for _, dmaFirst := range []bool{true, false} {
		b := New(1, photo(1024), sectors(64))
		puts(t, b, diskAt+4, 100, 0)
		puts(t, b, dmaAt, 500, 0)
		puts(t, b, dmaAt+4, 100, 0)
		puts(t, b, dmaAt+8, 124, 0)
		if dmaFirst {
			puts(t, b, dmaAt+12, 1, 10)
			puts(t, b, diskAt+8, 2, 10)
		} else {
			puts(t, b, diskAt+8, 2, 10)
			puts(t, b, dmaAt+12, 1, 10)
		}
		fires(t, b, 41, 0)
		fires(t, b, 42, 2)
		if dmaFirst {
			same(t, "disk", b.Disk(), photo(1024)[500:564])
		} else {
			same(t, "disk", b.Disk(), photo(1024)[100:164])
		}
	}
}

// P15.2: each device's Fire is given the event's own At, however late it is: what is armed by it goes on from there.
func TestFireAtItsTime(t *testing.T) {
	b := New(1, nil, nil)
	puts(t, b, timer0At+4, 10, 0)
	puts(t, b, timer0At, 3, 0)
	fires(t, b, 19, 1)
	dueAll(t, b, api.Event{At: 20, Device: 1, Seq: 1})
	fires(t, b, 20, 1)
	fires(t, b, 59, 3)
	dueAll(t, b, api.Event{At: 60, Device: 1, Seq: 5})
	puts(t, b, timer0At, 0, 59)
	for _, v := range []uint32{'a', 'b', 'c', 'd'} {
		puts(t, b, uartAt, v, 59)
	}
	fires(t, b, 74, 1)
	dueAll(t, b, api.Event{At: 75, Device: 3, Seq: 7})
	fires(t, b, 90, 2)
	dueAll(t, b, api.Event{At: 91, Device: 3, Seq: 9})
	if got := string(b.Out()); got != "abc" {
		t.Errorf("Out: %q", got)
	}
	puts(t, b, timer0At+4, 1<<31, 90)
	puts(t, b, timer0At, 3, 91)
	fires(t, b, 1<<31+90, 1) // the uart's
	for _, want := range []int{256, 256, 256, 255} {
		fires(t, b, 1<<41-1, want)
	}
	dueAll(t, b, api.Event{At: 91 + 1<<41, Device: 1, Seq: 1033})
}

// P15.2: a uart that has more to send: all that comes due by it till now is done in one Fire.
func TestFireOfLine(t *testing.T) {
	for count := 1; count <= 16; count++ {
		for _, late := range []int64{0, 1, 7} {
			for sent := range count + 3 {
				b := New(1, nil, nil)
				text := "ABCDEFGHIJKLMNOP"[:count]
				for _, v := range []byte(text) {
					puts(t, b, uartAt, uint32(v), 100)
				}
				done := min(sent, count)
				fires(t, b, 100+int64(sent)*8+late, done)
				if got := string(b.Out()); got != text[:done] {
					t.Fatalf("%d bytes behind %d: %q", count, sent, got)
				}
				if done == count {
					due(t, b, none)
				} else {
					due(t, b, 108+int64(done)*8)
				}
			}
		}
	}
}

// P15.2: one Fire tells MaxEvents times MaxEvents at most; what is left of them is done by the next ones.
func TestFireMost(t *testing.T) {
	for _, c := range []struct {
		now  int64
		want []int
	}{
		{0, []int{0}}, {1, []int{1, 0}}, {254, []int{254, 0}}, {255, []int{255, 0}}, {256, []int{256, 0}}, {257, []int{256, 1, 0}}, {300, []int{256, 44, 0}}, {512, []int{256, 256, 0}}, {513, []int{256, 256, 1, 0}}, {1000, []int{256, 256, 256, 232, 0, 0}},
	} {
		b := New(1, nil, nil)
		puts(t, b, timer0At, 3, 0)
		all := int64(0)
		for _, want := range c.want {
			fires(t, b, c.now, want)
			all += int64(want)
			asks(t, b, 2*min(uint32(all), 1), false)
			dueAll(t, b, api.Event{At: all + 1, Device: 1, Seq: all})
		}
		due(t, b, c.now+1)
	}
}

// P15.2: several that come again and again take turns by their times, and the bound cuts them where it comes.
func TestFireMostOfSeveral(t *testing.T) {
	b := New(1, nil, nil)
	puts(t, b, timer0At+4, 2, 0)
	puts(t, b, timer1At+4, 3, 0)
	puts(t, b, timer0At, 3, 0)
	puts(t, b, timer1At, 3, 0)
	puts(t, b, diskAt+8, 1, 500)
	// In each six steps the one is due thrice and the other twice: 255 by 306, and one at 308.
	fires(t, b, 532, 256)
	dueAll(t, b, api.Event{At: 309, Device: 2, Seq: 256}, api.Event{At: 310, Device: 1, Seq: 258}, api.Event{At: 532, Device: 5, Seq: 2})
	asks(t, b, 6, false)
	puts(t, b, timer0At+8, 1, 532)
	puts(t, b, timer0At, 0, 532)
	asks(t, b, 4, false)
	fires(t, b, 532, 76)
	asks(t, b, 0x24, false)
	due(t, b, 534)
	fires(t, b, 532, 0)
}

// P15.2: time that goes far at once, to the end of its bound.
func TestTimeLeaps(t *testing.T) {
	b := New(1, nil, nil)
	puts(t, b, timer0At+4, math.MaxUint32, 0)
	puts(t, b, timer0At, 3, 0)
	puts(t, b, diskAt+8, 1, 0)
	fires(t, b, math.MaxUint32-1, 1)
	fires(t, b, math.MaxUint32, 1)
	due(t, b, 2*math.MaxUint32)
	fires(t, b, 1<<40, 255)
	due(t, b, 257*math.MaxUint32)
	puts(t, b, dmaAt+12, 1, 1<<40)
	fires(t, b, 1<<41, 256)
	fires(t, b, 1<<41, 1)
	fires(t, b, 1<<41, 0)
	due(t, b, 513*math.MaxUint32)
	asks(t, b, 0x32, false)
}

// P15.2: Out tells all that was put out, the first MaxOut of it.
func TestOut(t *testing.T) {
	b := New(1, nil, nil)
	var want []byte
	for i := range 1<<16 + 50 {
		now := int64(i) * 8
		puts(t, b, uartAt, uint32(i/3), now)
		fires(t, b, now+8, 1)
		if i < 1<<16 {
			want = append(want, byte(i/3))
		}
		if i < 20 || bits.OnesCount(uint(i)) <= 1 || i > 1<<16-3 {
			same(t, "out", b.Out(), want)
		}
	}
}

// R2: what is done to answers of Out, Disk and Events, their spare room too, is not seen in the next ones, nor are calls seen in answers.
func TestAnswersAreNew(t *testing.T) {
	b := busy(t)
	before := tell(t, b)
	out, disk, events := b.Out(), b.Disk(), b.Events()
	for range 2 {
		fill(b.Out())
		fill(b.Disk())
		list := b.Events()
		for i := range list[:cap(list)] {
			list[:cap(list)][i] = api.Event{At: 1, Device: 9, Seq: 9}
		}
		agrees(t, tell(t, b), before)
	}
	puts(t, b, diskAt, 2, 40)
	fires(t, b, 500, 159)
	puts(t, b, diskAt+4, 300, 500)
	puts(t, b, diskAt+8, 2, 500)
	fires(t, b, 532, 12)
	if bytes.Equal(b.Out(), out) || bytes.Equal(b.Disk(), disk) || slices.Equal(b.Events(), events) {
		t.Fatal("nothing was done")
	}
	same(t, "out", out, before.out)
	same(t, "disk", disk, before.disk)
	if !slices.Equal(events, before.events) {
		t.Fatalf("the events are %v", events)
	}
}

// P15.1: Ram is the memory itself: what is written by way of it is what Load tells and the devices find, and the other way round.
func TestRam(t *testing.T) {
	b := New(2, nil, sectors(64))
	r := b.Ram()
	if r != b.Ram() {
		t.Fatal("two memories")
	}
	r.Store(16, 4, 0x01020304)
	holds(t, b, 16, 0x01020304)
	r.Put(2040, []byte{9, 8, 7, 6})
	holds(t, b, 2040, 0x09080706)
	puts(t, b, 1020, 0xcafe0102, 0)
	if v, ok := r.Load(1022, 2); v != 0x0102 || !ok {
		t.Fatalf("Load: %#x, %v", v, ok)
	}
	b.Store(1023, 1, 0x155, 0)
	if v, _ := r.Load(1020, 4); v != 0xcafe0155 {
		t.Fatalf("Load: %#x", v)
	}
	puts(t, b, dmaAt, 2040, 0)
	puts(t, b, dmaAt+4, 3, 0)
	puts(t, b, dmaAt+8, 4, 0)
	puts(t, b, dmaAt+12, 1, 0)
	puts(t, b, diskAt+4, 1024, 0)
	puts(t, b, diskAt+8, 1, 0)
	r.Store(2041, 1, 0x77)
	fires(t, b, 32, 2)
	if got, _ := r.Bytes(3, 4); !bytes.Equal(got, []byte{9, 0x77, 7, 6}) {
		t.Fatalf("moved: %v", got)
	}
	if got, _ := r.Bytes(1024, 64); !bytes.Equal(got, sectors(64)) {
		t.Fatalf("read: %v", got)
	}
	asks(t, b, 0x30, false)
}

// P15.1, P15.2: two buses of one image and one disk: neither sees the other's memory, words, bytes, lines or events.
func TestTwoBuses(t *testing.T) {
	image, disk := photo(1024), sectors(128)
	one, other := New(1, image, disk), New(1, image, disk)
	first := tell(t, other)
	agrees(t, tell(t, one), first)
	puts(t, one, linesAt+4, 0x3e, 0)
	puts(t, one, 0, 0x12345678, 0)
	puts(t, one, timer1At, 3, 0)
	puts(t, one, uartAt, 'A', 0)
	puts(t, one, uartAt+8, 1, 0)
	puts(t, one, dmaAt+8, 5, 0)
	puts(t, one, dmaAt+4, 100, 0)
	puts(t, one, dmaAt+12, 1, 0)
	puts(t, one, diskAt+8, 2, 0)
	one.Type('x')
	agrees(t, tell(t, other), first)
	fires(t, other, 100, 0)
	fires(t, one, 50, 53)
	agrees(t, tell(t, other), first)
	holds(t, other, uartAt, 0x100)
	then := tell(t, one)
	puts(t, other, timer1At, 1, 100)
	puts(t, other, diskAt, 1, 100)
	puts(t, other, diskAt+4, 900, 100)
	puts(t, other, diskAt+8, 1, 100)
	puts(t, other, 4, 7, 100)
	dueAll(t, other, api.Event{At: 101, Device: 2, Seq: 0}, api.Event{At: 132, Device: 5, Seq: 1})
	agrees(t, tell(t, one), then)
	fires(t, other, 132, 2)
	agrees(t, tell(t, one), then)
	agrees(t, tell(t, New(1, image, disk)), first)
}

// R1, R6: times below 0 and beyond the bound: each call ends, words are told as ever, and refused calls are refused.
func TestOddTimes(t *testing.T) {
	for _, now := range []int64{-1, -8, -9, -33, -1 << 32, -1 << 41, math.MinInt64, math.MinInt64 + 1, 1<<41 + 1, 1 << 50, 1 << 62, math.MaxInt64 - 8, math.MaxInt64 - 1, math.MaxInt64} {
		b := New(1, photo(1024), sectors(64))
		for k, from := range windows() {
			for word := range wordsOf(k) {
				for _, v := range []uint32{0, 3, math.MaxUint32} {
					puts(t, b, from+uint32(word)*4, v, now)
				}
				if _, ok := b.Load(from+uint32(word)*4, 4, now); !ok {
					t.Fatalf("at %d: word %d of window %d: false", now, word, k)
				}
			}
		}
		for range 3 {
			if got := b.Fire(now); got < 0 || got > 256 {
				t.Fatalf("Fire(%d): %d", now, got)
			}
			if got := b.Fire(math.MaxInt64); got < 0 || got > 256 {
				t.Fatalf("Fire, at last: %d", got)
			}
		}
		if v, ok := b.Load(4, 4, now); v != 0x05060708 || !ok {
			t.Fatalf("at %d: Load(4, 4): %#x, %v", now, v, ok)
		}
		if b.Store(endAt, 4, 1, now) || b.Store(0, 3, 1, now) {
			t.Fatalf("at %d: Store: true", now)
		}
		if v, ok := b.Load(uartAt, 1, now); v != 0 || ok {
			t.Fatalf("at %d: Load(uart, 1): %#x, %v", now, v, ok)
		}
	}
}
