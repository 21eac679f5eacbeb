package dma

import (
	"bytes"
	"math"
	"math/rand"
	"slices"
	"testing"

	"pianola/api"
	"pianola/ram"
	"pianola/wheel"
)

// none is the answer of a wheel on which nothing is due.
const none = -1

// others are addresses at which there is no word: all others up to beyond a window, and those that would be a word's if some of their bits were lost.
func others() []uint32 {
	list := []uint32{
		1<<8 - 4, 1 << 8, 1<<8 + 4, 1<<8 + 8, 1<<8 + 12, 1<<8 + 16, 1 << 16, 1<<16 + 4, 1<<16 + 8, 1<<16 + 12, 1<<16 + 16,
		0x1f000100, 0x1f000104, 0x1f000108, 0x1f00010c, 0x1f000110, 1<<31 - 1, 1 << 31, 1<<31 + 4, 1<<31 + 8, 1<<31 + 12, 1<<31 + 16,
		math.MaxUint32 - 19, math.MaxUint32 - 15, math.MaxUint32 - 11, math.MaxUint32 - 7, math.MaxUint32 - 3, math.MaxUint32 - 1, math.MaxUint32,
	}
	for at := range uint32(140) {
		if at%4 != 0 || at > 16 {
			list = append(list, at)
		}
	}
	return list
}

// strangers are numbers of which no device may be armed.
func strangers() []int {
	return []int{-1, -2, -16, 16, 17, 20, 99, 255, 256, 260, 1<<16 + 4, 1<<32 + 4, math.MinInt, math.MinInt + 4, math.MaxInt}
}

// moments are times, and they go back.
func moments() []int64 {
	return []int64{0, 1, 10, 1<<31 - 1, 1 << 31, 1<<32 - 1, 1 << 32, 1 << 40, 1<<41 - 1025, 1<<40 - 1, 7, 0}
}

// words are some to write, each bit alone and missing among them.
func words() []uint32 {
	list := []uint32{0, 3, 5, 6, 7, 11, 0x100, 0x10001, 4095, 4096, 4097, 0xfffffff8, 0xfffffff9, 0xfffffffc, math.MaxUint32}
	for bit := range 32 {
		list = append(list, 1<<bit, math.MaxUint32-1<<bit)
	}
	return list
}

// counts are numbers of bytes, and how many steps a move of so many takes.
func counts() map[uint32]int64 {
	return map[uint32]int64{
		0: 1, 1: 1, 2: 1, 3: 1, 4: 2, 5: 2, 7: 2, 8: 3, 11: 3, 255: 64, 256: 65, 1023: 256, 1024: 257, 1025: 257, 4091: 1023, 4092: 1024, 4095: 1024,
		4096: 1025, 4097: 1025, 4099: 1025, 4100: 1025, 5000: 1025, 8192: 1025, 1 << 16: 1025, 1<<16 + 4: 1025, 1<<31 - 1: 1025, 1 << 31: 1025, math.MaxUint32 - 1: 1025, math.MaxUint32: 1025,
	}
}

// state is what a mover tells.
type state struct {
	from, to, count, status uint32
}

func reads(t *testing.T, d *Dma, at, want uint32) {
	t.Helper()
	if got, ok := d.Read(at); got != want || !ok {
		t.Fatalf("Read(%d): %#x, %v, want %#x", at, got, ok, want)
	}
}

// holds asks for all that can be asked, twice, as asking changes nothing.
func holds(t *testing.T, d *Dma, s state) {
	t.Helper()
	for range 2 {
		reads(t, d, 0, s.from)
		reads(t, d, 4, s.to)
		reads(t, d, 8, s.count)
		reads(t, d, 12, 0)
		reads(t, d, 16, s.status)
		if got := d.Line(); got != (s.status >= 2) {
			t.Fatalf("Line: %v of status %d", got, s.status)
		}
	}
}

func writes(t *testing.T, d *Dma, at, v uint32, now int64) {
	t.Helper()
	if !d.Write(at, v, now) {
		t.Fatalf("Write(%d, %#x, %d): false", at, v, now)
	}
}

// asks writes what is to be moved.
func asks(t *testing.T, d *Dma, from, to, count uint32) {
	t.Helper()
	writes(t, d, 0, from, 0)
	writes(t, d, 4, to, 0)
	writes(t, d, 8, count, 0)
}

// due asks for the time of the device, or none.
func due(t *testing.T, w *wheel.Wheel, device int, want int64) {
	t.Helper()
	got, ok := w.At(device)
	if !ok {
		got = none
	}
	if got != want {
		t.Fatalf("device %d is due at %d, want %d", device, got, want)
	}
}

func dueAll(t *testing.T, w *wheel.Wheel, want ...api.Event) {
	t.Helper()
	if got := w.All(); !slices.Equal(got, want) {
		t.Fatalf("%v is due, want %v", got, want)
	}
}

// takes has the device's event come due, and the bytes moved.
func takes(t *testing.T, d *Dma, w *wheel.Wheel, device int, at int64) {
	t.Helper()
	if e, ok := w.Take(at - 1); ok {
		t.Fatalf("ahead of %d: %v is due", at, e)
	}
	e, ok := w.Take(at)
	if !ok || e.Device != device || e.At != at {
		t.Fatalf("at %d: %v, %v, want device %d", at, e, ok, device)
	}
	d.Fire(e.At)
}

// filled is memory of so many pages in which bytes beside each other, and a page or a power of two apart, differ.
func filled(pages int) *ram.Ram {
	r := ram.New(pages)
	row := make([]byte, r.Size())
	for i := range row {
		row[i] = byte(i%251 + i/251*3)
	}
	r.Put(0, row)
	return r
}

// all is what memory holds.
func all(r *ram.Ram) []byte {
	row, _ := r.Bytes(0, int(r.Size()))
	return row
}

func memoryIs(t *testing.T, r *ram.Ram, want []byte) {
	t.Helper()
	got := all(r)
	if bytes.Equal(got, want) {
		return
	}
	for i := range got {
		if got[i] != want[i] {
			t.Fatalf("byte %d is %d, want %d", i, got[i], want[i])
		}
	}
}

// moved tells what memory holds behind a move, one byte at a time out of what was there ahead of it.
func moved(ahead []byte, from, to, count uint32) []byte {
	want := slices.Clone(ahead)
	for i := range count {
		want[to+i] = ahead[from+i]
	}
	return want
}

// made has a mover of device 4 with that state: what it is to move is 5 bytes from 0x20 to 0x30, written at 100.
func made(t *testing.T, w *wheel.Wheel, r *ram.Ram, status uint32) (*Dma, state) {
	t.Helper()
	d := New(4, w, r)
	if status&4 != 0 {
		asks(t, d, 0, 0, 4097)
		d.Fire(1)
	}
	if status&2 != 0 {
		asks(t, d, 0, 0, 0)
		d.Fire(1)
	} else {
		writes(t, d, 16, 2, 1)
	}
	s := state{0x20, 0x30, 5, status}
	asks(t, d, s.from, s.to, s.count)
	if status&1 != 0 {
		writes(t, d, 12, 1, 100)
		due(t, w, 4, 102)
	}
	holds(t, d, s)
	return d, s
}

// eachState has a mover with each status, on a wheel and a memory of its own.
func eachState(t *testing.T, do func(d *Dma, w *wheel.Wheel, r *ram.Ram, s state)) {
	t.Helper()
	for status := range uint32(8) {
		w, r := wheel.New(), filled(2)
		d, s := made(t, w, r, status)
		do(d, w, r, s)
	}
}

// P13.1, P13.2: at first all words are 0, nothing is asked for, and what is due of any device and all of memory is as it was.
func TestNew(t *testing.T) {
	for device := range api.MaxEvents {
		w, r := wheel.New(), filled(2)
		r.Mark(1)
		before := all(r)
		holds(t, New(device, w, r), state{})
		dueAll(t, w)
		for d := range api.MaxEvents {
			w.Arm(d, int64(100-d))
		}
		events := w.All()
		holds(t, New(device, w, r), state{})
		dueAll(t, w, events...)
		memoryIs(t, r, before)
		if r.Marked(0) || !r.Marked(1) || len(r.Written()) > 0 {
			t.Fatal("the pages are not as they were")
		}
	}
}

// R1: without a wheel, or without a memory, there is no mover.
func TestNewWithoutWheelOrMemory(t *testing.T) {
	w, r := wheel.New(), filled(1)
	before := all(r)
	for _, device := range append(strangers(), 0, 1, 4, 15) {
		if New(device, nil, r) != nil {
			t.Fatalf("device %d, no wheel: a mover", device)
		}
		if New(device, w, nil) != nil {
			t.Fatalf("device %d, no memory: a mover", device)
		}
		if New(device, nil, nil) != nil {
			t.Fatalf("device %d, neither: a mover", device)
		}
	}
	dueAll(t, w)
	memoryIs(t, r, before)
}

// P13.1, P13.2: the chapter's run and its examples.
func TestRun(t *testing.T) {
	w, r := wheel.New(), ram.New(1)
	r.Put(0x100, []byte{9, 8, 7, 6, 5})
	d := New(4, w, r)
	asks(t, d, 0x100, 0x200, 4)
	writes(t, d, 12, 1, 0)
	due(t, w, 4, 2)
	writes(t, d, 12, 1, 5)
	dueAll(t, w, api.Event{At: 2, Device: 4, Seq: 0})
	takes(t, d, w, 4, 2)
	if got, _ := r.Bytes(0x1ff, 6); string(got) != "\x00\x09\x08\x07\x06\x00" {
		t.Fatalf("moved: %v", got)
	}
	holds(t, d, state{0x100, 0x200, 4, 2})
	writes(t, d, 8, 5000, 5)
	d.Fire(9)
	holds(t, d, state{0x100, 0x200, 5000, 6})
}

// P13.1, R3: Read of what is no word is 0, false, and nothing.
func TestReadOfOthers(t *testing.T) {
	eachState(t, func(d *Dma, w *wheel.Wheel, r *ram.Ram, s state) {
		before, events := all(r), w.All()
		for _, at := range others() {
			if v, ok := d.Read(at); v != 0 || ok {
				t.Fatalf("Read(%#x): %#x, %v", at, v, ok)
			}
		}
		holds(t, d, s)
		dueAll(t, w, events...)
		memoryIs(t, r, before)
	})
}

// P13.1: Read tells each of the words, with any in the others.
func TestRead(t *testing.T) {
	eachState(t, func(d *Dma, w *wheel.Wheel, r *ram.Ram, s state) {
		list := words()
		for i, v := range list {
			s.from, s.to, s.count = v, list[(i+11)%len(list)], list[(i+29)%len(list)]
			asks(t, d, s.from, s.to, s.count)
			holds(t, d, s)
		}
	})
}

// P13.1, R3: Write of what is no word is false, and nothing: no word, and no event, nor its number.
func TestWriteOfOthers(t *testing.T) {
	eachState(t, func(d *Dma, w *wheel.Wheel, r *ram.Ram, s state) {
		before, events := all(r), w.All()
		for _, at := range others() {
			for _, v := range []uint32{0, 1, 2, 3, 4, 6, 7, math.MaxUint32} {
				if d.Write(at, v, 9) {
					t.Fatalf("Write(%#x, %#x): true", at, v)
				}
			}
		}
		holds(t, d, s)
		dueAll(t, w, events...)
		memoryIs(t, r, before)
		w.Arm(4, 0)
		if first := w.All()[0]; first.Seq != int64(len(events)) {
			t.Fatalf("%d were armed, not %d", first.Seq, len(events))
		}
	})
}

// P13.1: from, to and count are the words that were written, whole, while it is busy too, and nothing else is turned by them.
func TestWriteOfWhatIsToBeMoved(t *testing.T) {
	eachState(t, func(d *Dma, w *wheel.Wheel, r *ram.Ram, s state) {
		before, events := all(r), w.All()
		for i, now := 0, moments(); i < 3; i++ {
			for _, v := range append(words(), 0x20, 0x30, 5) {
				writes(t, d, 0, v, now[i])
				s.from = v
				holds(t, d, s)
			}
			for _, v := range append(words(), 0x20, 0x30, 5) {
				writes(t, d, 4, v, now[i])
				s.to = v
				holds(t, d, s)
			}
			for _, v := range append(words(), 0x20, 0x30, 5) {
				writes(t, d, 8, v, now[i])
				s.count = v
				holds(t, d, s)
			}
		}
		dueAll(t, w, events...)
		memoryIs(t, r, before)
	})
}

// P13.1: each word at 12: with bit 0 a mover that is not busy is then, and is armed once; nothing of the word is kept.
func TestWriteControl(t *testing.T) {
	for status := range uint32(8) {
		for _, v := range words() {
			w, r := wheel.New(), filled(2)
			d, s := made(t, w, r, status)
			before, events := all(r), w.All()
			writes(t, d, 12, v, 40)
			if v%2 == 1 && status%2 == 0 {
				s.status++
				events = []api.Event{{At: 42, Device: 4, Seq: 0}}
			}
			holds(t, d, s)
			dueAll(t, w, events...)
			memoryIs(t, r, before)
		}
	}
}

// P13.1: a start arms the device at now + count / 4 + 1, whatever now is and was, and a count above 4096 as 4096; the words stay.
func TestStartArms(t *testing.T) {
	for count, steps := range counts() {
		for status := uint32(0); status < 8; status += 2 {
			for _, now := range moments() {
				w, r := wheel.New(), filled(1)
				w.Arm(6, now+steps)
				w.Arm(7, now+steps)
				d, s := made(t, w, r, status)
				s.from, s.to, s.count = 7, 5000, count
				asks(t, d, s.from, s.to, s.count)
				writes(t, d, 12, 1, now)
				s.status++
				holds(t, d, s)
				dueAll(t, w, api.Event{At: now + steps, Device: 6, Seq: 0}, api.Event{At: now + steps, Device: 7, Seq: 1}, api.Event{At: now + steps, Device: 4, Seq: 2})
			}
		}
	}
}

// P13.1: every count up to beyond 4096, by the steps that a move of one byte more takes.
func TestStepsOfEachCount(t *testing.T) {
	w := wheel.New()
	d := New(4, w, ram.New(1))
	steps := int64(1)
	for count := range uint32(4200) {
		if count > 0 && count <= 4096 && count%4 == 0 {
			steps++
		}
		writes(t, d, 8, count, 0)
		writes(t, d, 12, 1, 1000)
		due(t, w, 4, 1000+steps)
		takes(t, d, w, 4, 1000+steps)
	}
}

// P13.1: a start of one that is busy is nothing, at any now and of any count: what is armed stays, its number too.
func TestStartWhileBusy(t *testing.T) {
	for _, first := range moments() {
		w, r := wheel.New(), filled(1)
		before := all(r)
		d := New(4, w, r)
		asks(t, d, 3, 9, 40)
		writes(t, d, 12, 1, first)
		event := api.Event{At: first + 11, Device: 4, Seq: 0}
		for _, now := range moments() {
			for count := range counts() {
				writes(t, d, 8, count, now)
				writes(t, d, 12, math.MaxUint32, now)
				holds(t, d, state{3, 9, count, 1})
				dueAll(t, w, event)
			}
		}
		memoryIs(t, r, before)
		w.Arm(5, 0)
		dueAll(t, w, api.Event{At: 0, Device: 5, Seq: 1}, event)
	}
}

// P13.1: whatever others did with the device: a start goes by busy alone.
func TestStartOfWhatOthersArmed(t *testing.T) {
	w := wheel.New()
	d := New(4, w, filled(1))
	asks(t, d, 0, 0, 4)
	w.Arm(4, 7)
	writes(t, d, 12, 1, 50)
	due(t, w, 4, 52)
	w.Cancel(4)
	writes(t, d, 12, 1, 60)
	due(t, w, 4, none)
	holds(t, d, state{0, 0, 4, 1})
	d.Fire(70)
	due(t, w, 4, none)
	writes(t, d, 12, 1, 60)
	due(t, w, 4, 62)
}

// P13.1, P13.2: words that are written while it is busy leave the time, and are what Fire goes by.
func TestWordsWrittenWhileBusy(t *testing.T) {
	for _, c := range []struct {
		first, second state
		at            int64
	}{
		{state{0, 100, 8, 0}, state{200, 300, 16, 2}, 13},
		{state{0, 100, 400, 0}, state{0, 100, 2, 2}, 111},
		{state{0, 100, 8, 0}, state{1, 100, 8, 2}, 13},
		{state{0, 100, 8, 0}, state{0, 101, 8, 2}, 13},
		{state{0, 100, 8, 0}, state{0, 100, 0, 2}, 13},
		{state{0, 100, 8, 0}, state{0, 100, 4097, 6}, 13},
		{state{0, 100, 8, 0}, state{2041, 100, 8, 6}, 13},
		{state{0, 100, 8, 0}, state{0, 2041, 8, 6}, 13},
		{state{0, 100, 5000, 0}, state{0, 100, 7, 2}, 1035},
		{state{3000, 100, 7, 0}, state{300, 100, 7, 2}, 12},
		{state{300, 3000, 7, 0}, state{300, 100, 7, 2}, 12},
	} {
		w, r := wheel.New(), filled(2)
		before := all(r)
		d := New(4, w, r)
		asks(t, d, c.first.from, c.first.to, c.first.count)
		writes(t, d, 12, 1, 10)
		asks(t, d, c.second.from, c.second.to, c.second.count)
		due(t, w, 4, c.at)
		takes(t, d, w, 4, c.at)
		holds(t, d, c.second)
		if c.second.status == 2 {
			before = moved(before, c.second.from, c.second.to, c.second.count)
		}
		memoryIs(t, r, before)
	}
}

// P13.1: Write at 16 has done and error 0 where the word's bits 1 and 2 are 1, and does nothing else: busy stays, and what is armed.
func TestWriteStatus(t *testing.T) {
	for status := range uint32(8) {
		for _, v := range words() {
			w, r := wheel.New(), filled(2)
			d, s := made(t, w, r, status)
			before, events := all(r), w.All()
			for range 2 {
				writes(t, d, 16, v, 7)
				if v/2%2 == 1 && s.status/2%2 == 1 {
					s.status -= 2
				}
				if v/4%2 == 1 && s.status/4 == 1 {
					s.status -= 4
				}
				holds(t, d, s)
			}
			dueAll(t, w, events...)
			memoryIs(t, r, before)
		}
	}
}

// P13.1: what was forgotten is told again behind the next Fire, and only what applies then.
func TestStatusAnew(t *testing.T) {
	d := New(4, wheel.New(), ram.New(1))
	for _, c := range []struct{ count, v, behind, left uint32 }{
		{4, 2, 2, 0}, {5000, 2, 6, 4}, {4, 2, 6, 4}, {4, 4, 6, 2}, {4, 2, 2, 0}, {5000, 4, 6, 2}, {5000, 6, 6, 0}, {4, 4, 2, 2}, {4, 5, 2, 2}, {5000, 1, 6, 6}, {4, 0, 6, 6}, {4, 6, 6, 0}, {0, 7, 2, 0},
	} {
		writes(t, d, 8, c.count, 0)
		writes(t, d, 12, 1, 0)
		d.Fire(2)
		holds(t, d, state{0, 0, c.count, c.behind})
		writes(t, d, 16, c.v, 3)
		holds(t, d, state{0, 0, c.count, c.left})
	}
}

// fires has a move done on memory of so many pages by a mover of its own, and tells its status.
func fires(t *testing.T, r *ram.Ram, from, to, count uint32) uint32 {
	t.Helper()
	w := wheel.New()
	d := New(4, w, r)
	asks(t, d, from, to, count)
	writes(t, d, 12, 1, 0)
	d.Fire(1)
	status, _ := d.Read(16)
	holds(t, d, state{from, to, count, status})
	due(t, w, 4, 1+int64(min(count, 4096)/4))
	return status
}

// moves asks that a move is done, and that all other bytes stay.
func moves(t *testing.T, r *ram.Ram, from, to, count uint32) {
	t.Helper()
	before := all(r)
	if status := fires(t, r, from, to, count); status != 2 {
		t.Fatalf("of %d bytes: %d from %d to %d: status %d", len(before), count, from, to, status)
	}
	memoryIs(t, r, moved(before, from, to, count))
}

// fails asks that a move is an error, and moves nothing.
func fails(t *testing.T, r *ram.Ram, from, to, count uint32) {
	t.Helper()
	for page := range api.MaxPages {
		r.Mark(page)
	}
	before := all(r)
	if status := fires(t, r, from, to, count); status != 6 {
		t.Fatalf("of %d bytes: %d from %d to %d: status %d", len(before), count, from, to, status)
	}
	memoryIs(t, r, before)
	if pages := r.Written(); len(pages) > 0 {
		t.Fatalf("of %d bytes: %d from %d to %d: pages %v are written", len(before), count, from, to, pages)
	}
}

// P13.2: each move of a few bytes within a few: what is moved is there as it was ahead of it, overlapping by one byte, by many, by all or not at all.
func TestOverlap(t *testing.T) {
	for _, base := range []uint32{0, 300, 1014} {
		for from := range uint32(20) {
			for to := range uint32(20) {
				for count := range uint32(20) {
					r := filled(2)
					before, _ := r.Bytes(base, 60)
					if fires(t, r, base+from, base+to, count) != 2 {
						t.Fatalf("%d from %d to %d: an error", count, base+from, base+to)
					}
					got, _ := r.Bytes(base, 60)
					if want := moved(before, from, to, count); !bytes.Equal(got, want) {
						t.Fatalf("%d from %d to %d: %v, want %v", count, base+from, base+to, got, want)
					}
				}
			}
		}
	}
}

// P13.2: moves of many bytes that overlap by one, by many, by all but one, all, and none.
func TestOverlapOfMany(t *testing.T) {
	for _, count := range []uint32{2, 3, 64, 255, 256, 1024, 2047, 4095, 4096} {
		for _, apart := range []uint32{0, 1, 2, 3, 4, 7, count / 2, count - 2, count - 1, count, count + 1} {
			for _, base := range []uint32{0, 5, 1020} {
				moves(t, filled(10), base, base+apart, count)
				moves(t, filled(10), base+apart, base, count)
			}
		}
	}
}

// P13.2: at the very end of memory all is there; a byte further on, of none too, it is an error.
func TestEndOfMemory(t *testing.T) {
	for _, pages := range []int{1, 2, 4, 5, 9, 64} {
		for _, count := range []uint32{0, 1, 2, 3, 4, 5, 100, 1023, 1024, 2048, 4095, 4096} {
			r := filled(pages)
			size := r.Size()
			if count > size {
				fails(t, r, 0, 0, count)
				continue
			}
			end := size - count
			moves(t, r, end, 0, count)
			moves(t, r, 0, end, count)
			moves(t, r, end, end, count)
			moves(t, r, 0, 0, count)
			moves(t, r, end/2, end/3, count)
			for _, beyond := range []uint32{end + 1, end + 2, size + 1, size + 1024, 1 << 17} {
				fails(t, r, beyond, 0, count)
				fails(t, r, 0, beyond, count)
				fails(t, r, beyond, beyond, count)
				fails(t, r, end, beyond, count)
				fails(t, r, beyond, end, count)
			}
		}
	}
}

// P13.2: none at the end of memory is there, none past it is not.
func TestNoneAtTheEnd(t *testing.T) {
	for pages := 1; pages <= api.MaxPages; pages++ {
		r := filled(pages)
		size := r.Size()
		for _, at := range []uint32{0, 1, size - 1, size} {
			moves(t, r, at, size, 0)
			moves(t, r, size, at, 0)
			fails(t, r, at, size+1, 0)
			fails(t, r, size+1, at, 0)
		}
		fails(t, r, size+1, size+1, 0)
		fails(t, r, math.MaxUint32, size, 0)
		fails(t, r, size, math.MaxUint32, 0)
	}
}

// P13.2: places far beyond memory are not in it, though some of their bits, or their sum with the count, would be.
func TestFarPlaces(t *testing.T) {
	far := []uint32{
		1 << 16, 1<<16 + 5, 1 << 20, 1 << 24, 1<<31 - 1, 1 << 31, 1<<31 + 1, 1<<31 + 1024, 0x80000400, 0xa0000000, 0xbfc00000, 0xf0000000,
		math.MaxUint32 - 4096, math.MaxUint32 - 4095, math.MaxUint32 - 1023, math.MaxUint32 - 15, math.MaxUint32 - 7, math.MaxUint32 - 6, math.MaxUint32 - 1, math.MaxUint32,
	}
	for _, pages := range []int{1, 5, 64} {
		for _, at := range far {
			for _, count := range []uint32{0, 1, 2, 7, 8, 16, 1024, 4096} {
				if at == 1<<16 && pages == 64 && count == 0 {
					continue
				}
				r := filled(pages)
				fails(t, r, at, 0, count)
				fails(t, r, 0, at, count)
				fails(t, r, at, at, count)
				fails(t, r, at, 900, count)
				fails(t, r, 900, at, count)
			}
		}
	}
}

// P13.2: a count above 4096 is an error, however much memory there is, and though some of its bits would be a count.
func TestTooMany(t *testing.T) {
	for _, pages := range []int{1, 4, 5, 64} {
		for _, count := range []uint32{4097, 4098, 4100, 5000, 8192, 1 << 15, 1<<16 - 1, 1 << 16, 1<<16 + 4, 1 << 17, 1<<31 - 1, 1 << 31, 1<<31 + 4, math.MaxUint32 - 3, math.MaxUint32 - 1, math.MaxUint32} {
			r := filled(pages)
			for _, at := range []uint32{0, 1, 4, r.Size(), r.Size() + 1, math.MaxUint32 - 3, math.MaxUint32} {
				fails(t, r, at, 0, count)
				fails(t, r, 0, at, count)
				fails(t, r, at, at, count)
			}
		}
	}
}

// P13.2: a whole page to each other one, and 4096 bytes from each page to each.
func TestPages(t *testing.T) {
	const pages = 9
	for from := range uint32(pages) {
		for to := range uint32(pages) {
			moves(t, filled(pages), from*1024, to*1024, 1024)
			if from <= pages-4 && to <= pages-4 {
				moves(t, filled(pages), from*1024, to*1024, 4096)
			} else {
				fails(t, filled(pages), from*1024, to*1024, 4096)
			}
		}
	}
}

// P13.2: each bit of the words counts.
func TestEachBit(t *testing.T) {
	r := filled(64)
	for bit := range 16 {
		for _, at := range []uint32{1 << bit, 1<<bit - 1, 1<<16 - 1 - 1<<bit} {
			moves(t, r, at, 7, 1)
			moves(t, r, 70, at, 1)
		}
	}
	for bit := range 13 {
		for _, count := range []uint32{1 << bit, 1<<bit - 1, 1<<12 - 1 - 1<<min(bit, 11)} {
			moves(t, r, 11, 9999, count)
			moves(t, r, 20000, 333, count)
		}
	}
}

// P13.2: behind a Fire error stays 1 till it is forgotten, though later moves are right; done comes each time.
func TestErrorStays(t *testing.T) {
	r := filled(1)
	d := New(4, wheel.New(), r)
	asks(t, d, 0, 1025, 0)
	d.Fire(0)
	holds(t, d, state{0, 1025, 0, 6})
	writes(t, d, 4, 512, 0)
	for count := range uint32(5) {
		writes(t, d, 8, count*100, 0)
		writes(t, d, 16, 2, 0)
		writes(t, d, 12, 1, 0)
		holds(t, d, state{0, 512, count * 100, 5})
		before := all(r)
		d.Fire(0)
		holds(t, d, state{0, 512, count * 100, 6})
		memoryIs(t, r, moved(before, 0, 512, count*100))
	}
	writes(t, d, 16, 4, 0)
	d.Fire(0)
	holds(t, d, state{0, 512, 400, 2})
}

// P13.2: Fire with each status, busy or not, of a move that is right and of one that is not; it neither arms nor cancels anything, at any time.
func TestFireOfEachStatus(t *testing.T) {
	for _, at := range append(moments(), -1, math.MinInt64, math.MaxInt64) {
		eachState(t, func(d *Dma, w *wheel.Wheel, r *ram.Ram, s state) {
			w.Arm(6, 3)
			w.Arm(4, 9)
			before, events := all(r), w.All()
			d.Fire(at)
			s.status = s.status/4*4 + 2
			holds(t, d, s)
			memoryIs(t, r, moved(before, 0x20, 0x30, 5))
			dueAll(t, w, events...)
		})
		eachState(t, func(d *Dma, w *wheel.Wheel, r *ram.Ram, s state) {
			w.Arm(6, 3)
			w.Cancel(4)
			before, events := all(r), w.All()
			s.to, s.status = 2044, 6
			writes(t, d, 4, s.to, 0)
			d.Fire(at)
			holds(t, d, s)
			memoryIs(t, r, before)
			dueAll(t, w, events...)
		})
	}
}

// P13.2: several Fires one behind the other: each moves what is there by then.
func TestFireAgain(t *testing.T) {
	r := filled(2)
	d := New(4, wheel.New(), r)
	asks(t, d, 1000, 1001, 900)
	want := all(r)
	for i := range 70 {
		d.Fire(int64(100 - i))
		want = moved(want, 1000, 1001, 900)
		memoryIs(t, r, want)
		holds(t, d, state{1000, 1001, 900, 2})
	}
	r.Store(1000, 4, 0x01020304)
	d.Fire(0)
	if got, _ := r.Bytes(1000, 5); string(got) != "\x01\x01\x02\x03\x04" {
		t.Fatalf("moved: %v", got)
	}
}

// P13.2: bytes go by what is in memory when it fires, not when it was started.
func TestFireOfWhatIsThere(t *testing.T) {
	w, r := wheel.New(), filled(1)
	d := New(4, w, r)
	asks(t, d, 0x10, 0x20, 4)
	writes(t, d, 12, 1, 0)
	r.Store(0x10, 4, 0xcafe1234)
	r.Store(0x20, 4, 0)
	takes(t, d, w, 4, 2)
	if v, _ := r.Load(0x20, 4); v != 0xcafe1234 {
		t.Fatalf("moved: %#x", v)
	}
}

// P13.2: the marked pages that bytes are moved into are told as written, of the same bytes too; those that they come from, and those that are not marked, are not.
func TestMarkedPages(t *testing.T) {
	for _, c := range []struct {
		marked          []int
		from, to, count uint32
		written         []int
	}{
		{nil, 0, 1024, 1024, nil},
		{[]int{0}, 0, 1024, 1024, nil},
		{[]int{1}, 0, 1024, 1024, []int{1}},
		{[]int{0, 1, 2}, 0, 1024, 1024, []int{1}},
		{[]int{0, 1, 2}, 0, 1024, 1025, []int{1, 2}},
		{[]int{0, 1, 2}, 0, 1023, 1, []int{0}},
		{[]int{0, 1, 2}, 0, 1023, 2, []int{0, 1}},
		{[]int{0, 1, 2}, 0, 2047, 1, []int{1}},
		{[]int{0, 1, 2}, 0, 2048, 1, []int{2}},
		{[]int{0, 1, 2}, 5, 5, 1, []int{0}},
		{[]int{0, 1, 2}, 1020, 1020, 10, []int{0, 1}},
		{[]int{0, 1, 2, 3, 4, 5}, 0, 0, 4096, []int{0, 1, 2, 3}},
		{[]int{0, 1, 2, 3, 4, 5}, 0, 1, 4096, []int{0, 1, 2, 3, 4}},
		{[]int{0, 2, 4}, 0, 1, 4096, []int{0, 2, 4}},
		{[]int{0, 1, 2, 3, 4, 5}, 6 * 1024, 0, 0, nil},
		{[]int{0, 1, 2, 3, 4, 5}, 0, 6 * 1024, 0, nil},
		{[]int{0, 1, 2, 3, 4, 5}, 0, 1024, 0, nil},
		{[]int{0, 1, 2, 3, 4, 5}, 0, 1024, 4097, nil},
		{[]int{0, 1, 2, 3, 4, 5}, 0, 6*1024 - 3, 4, nil},
		{[]int{0, 1, 2, 3, 4, 5}, 6*1024 - 3, 0, 4, nil},
	} {
		r := filled(6)
		for _, page := range c.marked {
			r.Mark(page)
		}
		fires(t, r, c.from, c.to, c.count)
		if got := r.Written(); !slices.Equal(got, c.written) {
			t.Errorf("%d from %d to %d, marked %v: %v are written, want %v", c.count, c.from, c.to, c.marked, got, c.written)
		}
		for page := range 6 {
			if r.Marked(page) != slices.Contains(c.marked, page) {
				t.Errorf("%d from %d to %d: page %d: marked is %v", c.count, c.from, c.to, page, r.Marked(page))
			}
		}
		if got := r.Written(); len(got) > 0 {
			t.Errorf("%d from %d to %d: %v are written once more", c.count, c.from, c.to, got)
		}
	}
}

// P13.1, P13.2: starts and words write no page.
func TestWritesWriteNoPage(t *testing.T) {
	eachState(t, func(d *Dma, w *wheel.Wheel, r *ram.Ram, s state) {
		r.Mark(0)
		r.Mark(1)
		for at := uint32(0); at < 24; at += 4 {
			for _, v := range words() {
				d.Write(at, v, 5)
			}
		}
		if got := r.Written(); len(got) > 0 {
			t.Fatalf("%v are written", got)
		}
	})
}

// P13.2: Line behind each call: it is done or error, not busy.
func TestLine(t *testing.T) {
	d := New(4, wheel.New(), ram.New(1))
	asked := func(want bool) {
		t.Helper()
		for range 2 {
			if d.Line() != want {
				t.Fatalf("Line: %v", !want)
			}
		}
	}
	asked(false)
	for range 3 {
		asks(t, d, 0, 4, 4)
		asked(false)
		writes(t, d, 12, 1, 0)
		asked(false)
		writes(t, d, 12, 1, 0)
		asked(false)
		d.Fire(2)
		asked(true)
		writes(t, d, 12, 1, 0)
		asked(true)
		writes(t, d, 16, 4, 0)
		asked(true)
		writes(t, d, 16, 1, 0)
		asked(true)
		writes(t, d, 16, 2, 0)
		asked(false)
		writes(t, d, 8, 4097, 0)
		asked(false)
		d.Fire(2)
		asked(true)
		writes(t, d, 16, 2, 0)
		asked(true)
		writes(t, d, 12, 1, 0)
		asked(true)
		writes(t, d, 16, 4, 0)
		asked(false)
		d.Fire(2)
		asked(true)
		writes(t, d, 16, 4, 0)
		asked(true)
		writes(t, d, 16, 6, 0)
		asked(false)
		d.Write(20, 1, 0)
		asked(false)
	}
}

// P13.1, P13.2: two movers of one wheel and one memory, and other devices: neither sees the other's words, each one's event is its own, and both move the same bytes.
func TestTwoMovers(t *testing.T) {
	w, r := wheel.New(), filled(1)
	want := all(r)
	one, other := New(4, w, r), New(5, w, r)
	w.Arm(1, 18)
	w.Arm(6, 2)
	asks(t, one, 0, 100, 32)
	writes(t, one, 12, 1, 9)
	holds(t, one, state{0, 100, 32, 1})
	holds(t, other, state{})
	asks(t, other, 100, 200, 33)
	writes(t, other, 12, 1, 9)
	holds(t, one, state{0, 100, 32, 1})
	holds(t, other, state{100, 200, 33, 1})
	dueAll(t, w, api.Event{At: 2, Device: 6, Seq: 1}, api.Event{At: 18, Device: 1, Seq: 0}, api.Event{At: 18, Device: 4, Seq: 2}, api.Event{At: 18, Device: 5, Seq: 3})
	w.Cancel(6)
	w.Cancel(1)
	takes(t, one, w, 4, 18)
	want = moved(want, 0, 100, 32)
	memoryIs(t, r, want)
	holds(t, one, state{0, 100, 32, 2})
	holds(t, other, state{100, 200, 33, 1})
	takes(t, other, w, 5, 18)
	want = moved(want, 100, 200, 33)
	memoryIs(t, r, want)
	writes(t, one, 16, 2, 0)
	holds(t, one, state{0, 100, 32, 0})
	holds(t, other, state{100, 200, 33, 2})
	writes(t, one, 8, 5000, 0)
	one.Fire(20)
	holds(t, one, state{0, 100, 5000, 6})
	holds(t, other, state{100, 200, 33, 2})
	holds(t, New(4, w, r), state{})
	dueAll(t, w)
	memoryIs(t, r, want)
}

// P13.1, P13.2: movers of the same device on two wheels, each with a memory of its own.
func TestTwoWheels(t *testing.T) {
	near, far := wheel.New(), wheel.New()
	small, great := filled(1), filled(2)
	one, other := New(4, near, small), New(4, far, great)
	asks(t, one, 10, 1020, 4)
	asks(t, other, 10, 1020, 9)
	writes(t, one, 12, 1, 5)
	due(t, near, 4, 7)
	due(t, far, 4, none)
	writes(t, other, 12, 1, 5)
	due(t, near, 4, 7)
	due(t, far, 4, 8)
	wantSmall, wantGreat := moved(all(small), 10, 1020, 4), all(great)
	takes(t, one, near, 4, 7)
	memoryIs(t, small, wantSmall)
	memoryIs(t, great, wantGreat)
	due(t, far, 4, 8)
	wantGreat = moved(wantGreat, 10, 1020, 9)
	takes(t, other, far, 4, 8)
	memoryIs(t, small, wantSmall)
	memoryIs(t, great, wantGreat)
	holds(t, one, state{10, 1020, 4, 2})
	holds(t, other, state{10, 1020, 9, 2})
}

// P13.1, P13.2: each device, with all others due: its own event alone comes and goes.
func TestEachDevice(t *testing.T) {
	for device := range api.MaxEvents {
		w, r := wheel.New(), filled(1)
		for d := range api.MaxEvents {
			if d != device {
				w.Arm(d, int64(90+d))
			}
		}
		before, events := all(r), w.All()
		d := New(device, w, r)
		asks(t, d, 1, 7, 20)
		writes(t, d, 12, 1, 6)
		takes(t, d, w, device, 12)
		holds(t, d, state{1, 7, 20, 2})
		memoryIs(t, r, moved(before, 1, 7, 20))
		dueAll(t, w, events...)
	}
}

// P13.1, P13.2: of a number that no device has nothing is armed, but the words are words, and the bytes are moved.
func TestStrangers(t *testing.T) {
	for _, device := range strangers() {
		w, r := wheel.New(), filled(1)
		w.Arm(4, 30)
		before, events := all(r), w.All()
		d := New(device, w, r)
		asks(t, d, 1, 7, 20)
		writes(t, d, 12, 1, 6)
		holds(t, d, state{1, 7, 20, 1})
		d.Fire(12)
		holds(t, d, state{1, 7, 20, 2})
		memoryIs(t, r, moved(before, 1, 7, 20))
		if d.Write(20, 1, 0) {
			t.Fatal("Write(20): true")
		}
		dueAll(t, w, events...)
	}
}

// R1, R6: times below 0 and beyond the bound: each call ends, and the words are the same as at other times.
func TestOddTimes(t *testing.T) {
	far := []int64{-1, -2, -1025, -1026, -1 << 32, -1 << 41, math.MinInt64, math.MinInt64 + 1, 1 << 50, 1 << 62, math.MaxInt64 - 1025, math.MaxInt64 - 1, math.MaxInt64}
	for _, now := range far {
		for count := range counts() {
			r := filled(5)
			before := all(r)
			d := New(4, wheel.New(), r)
			writes(t, d, 0, 3, now)
			writes(t, d, 4, 9, now)
			writes(t, d, 8, count, now)
			writes(t, d, 12, 1, now)
			holds(t, d, state{3, 9, count, 1})
			d.Fire(now)
			if count <= 4096 {
				holds(t, d, state{3, 9, count, 2})
				before = moved(before, 3, 9, count)
			} else {
				holds(t, d, state{3, 9, count, 6})
			}
			memoryIs(t, r, before)
			writes(t, d, 16, 6, now)
			holds(t, d, state{3, 9, count, 0})
			if d.Write(3, 1, now) {
				t.Fatal("Write(3): true")
			}
		}
	}
}

// P13.1: a time below 0 counts as it stands; ahead of 0 nothing can be armed, and so what was armed stays, but it is busy.
func TestTimesBelowZero(t *testing.T) {
	for _, c := range []struct {
		count     uint32
		now, want int64
	}{{0, -1, 0}, {0, -2, none}, {4, -1, 1}, {4, -2, 0}, {4, -3, none}, {4096, -1025, 0}, {4096, -1026, none}, {9999, -1025, 0}, {9999, -1026, none}} {
		w := wheel.New()
		d := New(4, w, filled(5))
		writes(t, d, 8, c.count, 0)
		writes(t, d, 12, 1, c.now)
		due(t, w, 4, c.want)
		holds(t, d, state{0, 0, c.count, 1})
		d.Fire(c.now)
		w.Arm(4, 40)
		writes(t, d, 12, 1, c.now)
		if c.want == none {
			due(t, w, 4, 40)
		} else {
			due(t, w, 4, c.want)
		}
	}
}

// memory is told plainly: its bytes, and which pages are marked and written.
type memory struct {
	bytes           []byte
	marked, written []bool
}

// plain tells a mover by wide numbers, and does on a wheel of its own by hand what the mover has to do on the other one.
type plain struct {
	device            int
	wheel             *wheel.Wheel
	memory            *memory
	from, to, count   uint64
	busy, done, wrong bool
}

func (p *plain) write(at, v uint32, now int64) bool {
	switch at {
	case 0:
		p.from = uint64(v)
	case 4:
		p.to = uint64(v)
	case 8:
		p.count = uint64(v)
	case 12:
		if v%2 == 1 && !p.busy {
			p.busy = true
			p.wheel.Arm(p.device, now+p.steps())
		}
	case 16:
		p.done = p.done && v/2%2 == 0
		p.wrong = p.wrong && v/4%2 == 0
	default:
		return false
	}
	return true
}

func (p *plain) steps() int64 {
	steps := int64(1)
	for done := uint64(4); done <= p.count && done <= 4096; done += 4 {
		steps++
	}
	return steps
}

func (p *plain) fire() {
	p.busy, p.done = false, true
	size := uint64(len(p.memory.bytes))
	if p.count > 4096 || p.from+p.count > size || p.to+p.count > size {
		p.wrong = true
		return
	}
	ahead := string(p.memory.bytes)
	for i := range p.count {
		p.memory.put(p.to+i, ahead[p.from+i])
	}
}

func (m *memory) put(at uint64, v byte) {
	m.bytes[at] = v
	if m.marked[at/1024] {
		m.written[at/1024] = true
	}
}

func (m *memory) asked() []int {
	var pages []int
	for page := range m.written {
		if m.written[page] {
			pages = append(pages, page)
		}
		m.written[page] = false
	}
	return pages
}

func (p *plain) state() state {
	s := state{from: uint32(p.from), to: uint32(p.to), count: uint32(p.count)}
	if p.busy {
		s.status++
	}
	if p.done {
		s.status += 2
	}
	if p.wrong {
		s.status += 4
	}
	return s
}

// bench has two movers on one wheel and one memory, and their plain tellings on others.
type bench struct {
	wheel, told *wheel.Wheel
	ram         *ram.Ram
	memory      *memory
	movers      [2]*Dma
	plains      [2]*plain
}

func newBench(pages int) *bench {
	b := &bench{wheel: wheel.New(), told: wheel.New(), ram: filled(pages)}
	b.memory = &memory{bytes: all(b.ram), marked: make([]bool, pages), written: make([]bool, pages)}
	for i := range b.movers {
		b.movers[i] = New(i+4, b.wheel, b.ram)
		b.plains[i] = &plain{device: i + 4, wheel: b.told, memory: b.memory}
	}
	return b
}

func (b *bench) write(t *testing.T, which int, at, v uint32, now int64) {
	t.Helper()
	want := b.plains[which].write(at, v, now)
	if got := b.movers[which].Write(at, v, now); got != want {
		t.Fatalf("Write(%#x, %#x, %d): %v, want %v", at, v, now, got, want)
	}
}

func (b *bench) fire(which int, at int64) {
	b.plains[which].fire()
	b.movers[which].Fire(at)
}

// arm has another device's event on both wheels.
func (b *bench) arm(device int, at int64) {
	b.wheel.Arm(device, at)
	b.told.Arm(device, at)
}

// take has what is due come, and the mover fire whose event it is.
func (b *bench) take(t *testing.T, now int64) {
	t.Helper()
	e, ok := b.wheel.Take(now)
	if want, is := b.told.Take(now); e != want || ok != is {
		t.Fatalf("Take(%d): %v, %v, want %v, %v", now, e, ok, want, is)
	}
	if ok && (e.Device == 4 || e.Device == 5) {
		b.fire(e.Device-4, e.At)
	}
}

// store has a byte in both memories.
func (b *bench) store(at uint32, v byte) {
	b.ram.Store(at, 1, uint32(v))
	b.memory.put(uint64(at), v)
}

func (b *bench) mark(page int, is bool) {
	if is {
		b.ram.Mark(page)
	} else {
		b.ram.Unmark(page)
		b.memory.written[page] = false
	}
	b.memory.marked[page] = is
}

func (b *bench) written(t *testing.T) {
	t.Helper()
	if got, want := b.ram.Written(), b.memory.asked(); !slices.Equal(got, want) {
		t.Fatalf("pages %v are written, want %v", got, want)
	}
}

func (b *bench) holds(t *testing.T) {
	t.Helper()
	for i, d := range b.movers {
		holds(t, d, b.plains[i].state())
	}
	if got, want := b.wheel.All(), b.told.All(); !slices.Equal(got, want) {
		t.Fatalf("%v is due, want %v", got, want)
	}
	memoryIs(t, b.ram, b.memory.bytes)
}

// P13.1, P13.2: long rows of calls of any kind on two movers of one wheel and one memory, against a plain telling.
func TestLongRows(t *testing.T) {
	for seed := range int64(16) {
		random := rand.New(rand.NewSource(seed))
		b := newBench([]int{1, 2, 5, 9}[seed%4])
		for range 3000 {
			b.step(t, random, seed/4)
			b.holds(t)
		}
		b.written(t)
	}
}

// step makes one call of any kind; the bias has places and counts be within memory, at its end, or any.
func (b *bench) step(t *testing.T, random *rand.Rand, bias int64) {
	t.Helper()
	which, now := random.Intn(2), int64(random.Intn(3000))
	size := uint32(len(b.memory.bytes))
	place, count, v := uint32(random.Intn(int(size))), uint32(random.Intn(300)), uint32(random.Intn(8))
	switch bias {
	case 1:
		place, count = size-uint32(random.Intn(20)), uint32(random.Intn(20))
	case 2:
		count = uint32(random.Intn(4200))
	case 3:
		place, count, v, now = random.Uint32()>>random.Intn(32), random.Uint32()>>random.Intn(32), random.Uint32(), int64(random.Uint64()>>(22+random.Intn(42)))
	}
	switch random.Intn(14) {
	case 0:
		b.write(t, which, 0, place, now)
	case 1:
		b.write(t, which, 4, place, now)
	case 2:
		b.write(t, which, 8, count, now)
	case 3, 4:
		b.write(t, which, 12, v, now)
	case 5:
		b.write(t, which, 16, v, now)
	case 6:
		b.write(t, which, uint32(random.Intn(36)), v, now)
	case 7:
		b.write(t, which, random.Uint32(), v, now)
	case 8:
		b.fire(which, now)
	case 9:
		b.arm(6+random.Intn(10), now)
	case 10:
		b.mark(random.Intn(len(b.memory.marked)), random.Intn(3) > 0)
	case 11:
		b.written(t)
	case 12:
		b.store(uint32(random.Intn(int(size))), byte(v))
	default:
		b.take(t, now)
	}
}

// P13.1, P13.2: every row of five calls out of a few, against a plain telling.
func TestShortRows(t *testing.T) {
	const kinds, length = 12, 5
	rows := 1
	for range length {
		rows *= kinds
	}
	for row := range rows {
		b := newBench(1)
		b.mark(0, true)
		b.write(t, 0, 4, 8, 0)
		for call, rest := 0, row; call < length; call, rest = call+1, rest/kinds {
			b.call(t, rest%kinds, call)
		}
		b.written(t)
		b.holds(t)
	}
}

// call makes one of the calls of short rows.
func (b *bench) call(t *testing.T, kind, count int) {
	t.Helper()
	now := int64(9 - count)
	switch kind {
	case 0:
		b.write(t, 0, 12, 1, now)
	case 1:
		b.write(t, 0, 12, 2, now)
	case 2:
		b.take(t, 100)
	case 3:
		b.fire(0, 4)
	case 4:
		b.write(t, 0, 8, uint32(count)+7, now)
	case 5:
		b.write(t, 0, 8, 4097, now)
	case 6:
		b.write(t, 0, 0, uint32(count)*3, now)
	case 7:
		b.write(t, 0, 4, 1016, now)
	case 8, 9, 10:
		b.write(t, 0, 16, uint32(kind-7)*2, now)
	default:
		b.write(t, 1, 12, 1, now)
	}
}
