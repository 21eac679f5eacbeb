package disk

import (
	"bytes"
	"math"
	"math/rand"
	"slices"
	"testing"

	"pianola/api"
	"pianola/ram"
	"pianola/wheel"
)

// none is the answer of a wheel on which nothing is due.
const none = -1

// others are addresses at which there is no word: all others up to beyond a window, and those that would be a word's if some of their bits were lost.
func others() []uint32 {
	list := []uint32{
		1<<8 - 4, 1 << 8, 1<<8 + 4, 1<<8 + 8, 1<<8 + 12, 1 << 16, 1<<16 + 4, 1<<16 + 8, 1<<16 + 12,
		0x1f000140, 0x1f000144, 0x1f000148, 0x1f00014c, 1<<31 - 1, 1 << 31, 1<<31 + 4, 1<<31 + 8, 1<<31 + 12,
		math.MaxUint32 - 15, math.MaxUint32 - 11, math.MaxUint32 - 7, math.MaxUint32 - 3, math.MaxUint32 - 1, math.MaxUint32,
	}
	for at := range uint32(140) {
		if at%4 != 0 || at > 12 {
			list = append(list, at)
		}
	}
	return list
}

// strangers are numbers of which no device may be armed.
func strangers() []int {
	return []int{-1, -2, -16, 16, 17, 21, 99, 255, 256, 261, 1<<16 + 5, 1<<32 + 5, math.MinInt, math.MinInt + 5, math.MaxInt}
}

// moments are times, and they go back.
func moments() []int64 {
	return []int64{0, 1, 10, 1<<31 - 1, 1 << 31, 1<<32 - 1, 1 << 32, 1 << 40, 1<<41 - 32, 1<<40 - 1, 7, 0}
}

// words are some to write, each bit alone and missing among them.
func words() []uint32 {
	list := []uint32{0, 3, 5, 6, 7, 11, 63, 65, 0x101, 0x102, 0x10001, 0x10002, 0xfffffff8, 0xfffffff9, 0xfffffffc, math.MaxUint32}
	for bit := range 32 {
		list = append(list, 1<<bit, math.MaxUint32-1<<bit)
	}
	return list
}

// state is what the words tell.
type state struct {
	sector, address, command, status uint32
}

// told asks for all words, and whether each of them is one and Line goes with them.
func told(d *Disk) (state, bool) {
	sector, first := d.Read(0)
	address, second := d.Read(4)
	command, third := d.Read(8)
	status, fourth := d.Read(12)
	ok := first && second && third && fourth && d.Line() == (status >= 2)
	return state{sector, address, command, status}, ok
}

// holds asks for all that the words tell, twice, as asking changes nothing.
func holds(t *testing.T, d *Disk, want state) {
	t.Helper()
	for range 2 {
		if got, ok := told(d); got != want || !ok {
			t.Fatalf("the words are %x, and Line %v, want %x", got, d.Line(), want)
		}
	}
}

func writes(t *testing.T, d *Disk, at, v uint32, now int64) {
	t.Helper()
	if !d.Write(at, v, now) {
		t.Fatalf("Write(%d, %#x, %d): false", at, v, now)
	}
}

// due asks for the time of the device, or none.
func due(t *testing.T, w *wheel.Wheel, device int, want int64) {
	t.Helper()
	got, ok := w.At(device)
	if !ok {
		got = none
	}
	if got != want {
		t.Fatalf("device %d is due at %d, want %d", device, got, want)
	}
}

func dueAll(t *testing.T, w *wheel.Wheel, want ...api.Event) {
	t.Helper()
	if got := w.All(); !slices.Equal(got, want) {
		t.Fatalf("%v is due, want %v", got, want)
	}
}

// takes has the device's event come due, and the command done.
func takes(t *testing.T, d *Disk, w *wheel.Wheel, device int, at int64) {
	t.Helper()
	if e, ok := w.Take(at - 1); ok {
		t.Fatalf("ahead of %d: %v is due", at, e)
	}
	e, ok := w.Take(at)
	if !ok || e.Device != device || e.At != at {
		t.Fatalf("at %d: %v, %v, want device %d", at, e, ok, device)
	}
	d.Fire(e.At)
}

// filled is memory of so many pages in which bytes beside each other, and a page or a power of two apart, differ.
func filled(pages int) *ram.Ram {
	r := ram.New(pages)
	row := make([]byte, r.Size())
	for i := range row {
		row[i] = byte(i%251 + i/251*3)
	}
	r.Put(0, row)
	return r
}

// picture is an image of so many bytes in which no two sectors are the same, nor the same as a piece of filled memory.
func picture(size int) []byte {
	row := make([]byte, size)
	for i := range row {
		row[i] = byte(200 + i*5 + i/64*3)
	}
	return row
}

// all is what memory holds.
func all(r *ram.Ram) []byte {
	row, _ := r.Bytes(0, int(r.Size()))
	return row
}

func same(t *testing.T, what string, got, want []byte) {
	t.Helper()
	if bytes.Equal(got, want) {
		return
	}
	if len(got) != len(want) {
		t.Fatalf("%s: %d bytes, want %d", what, len(got), len(want))
	}
	for i := range got {
		if got[i] != want[i] {
			t.Fatalf("%s: byte %d is %d, want %d", what, i, got[i], want[i])
		}
	}
}

func memoryIs(t *testing.T, r *ram.Ram, want []byte) {
	t.Helper()
	same(t, "memory", all(r), want)
}

func diskIs(t *testing.T, d *Disk, want []byte) {
	t.Helper()
	same(t, "disk", d.Bytes(), want)
	if got := d.Sectors(); got != len(want)/64 {
		t.Fatalf("Sectors: %d, want %d", got, len(want)/64)
	}
}

// rig is a disk of device 5, on a wheel and a memory of its own.
type rig struct {
	wheel *wheel.Wheel
	ram   *ram.Ram
	disk  *Disk
}

func newRig(pages, size int) *rig {
	g := &rig{wheel: wheel.New(), ram: filled(pages)}
	g.disk = New(5, g.wheel, g.ram, picture(size))
	return g
}

// made is a rig of 2 pages and 3 sectors in that state, whose command, if it is busy, was written at 100 and is the wheel's second Arm; else nothing is due.
func made(t *testing.T, s state) *rig {
	t.Helper()
	g := newRig(2, 170)
	before, cells := all(g.ram), g.disk.Bytes()
	writes(t, g.disk, 0, 99, 1)
	writes(t, g.disk, 8, s.command, 1)
	takes(t, g.disk, g.wheel, 5, 33)
	writes(t, g.disk, 12, 6-s.status&6, 33)
	if s.status&1 != 0 {
		writes(t, g.disk, 8, s.command, 100)
	}
	writes(t, g.disk, 0, s.sector, 101)
	writes(t, g.disk, 4, s.address, 101)
	g.holds(t, s, before, cells)
	if s.status&1 != 0 {
		dueAll(t, g.wheel, api.Event{At: 132, Device: 5, Seq: 1})
	} else {
		dueAll(t, g.wheel)
	}
	return g
}

// eachState has a rig with each status and some commands.
func eachState(t *testing.T, do func(g *rig, s state)) {
	t.Helper()
	for status := range uint32(8) {
		for _, command := range []uint32{0, 1, 2, 3, math.MaxUint32} {
			s := state{1, 0x123, command, status}
			do(made(t, s), s)
		}
	}
}

func (g *rig) holds(t *testing.T, s state, memory, cells []byte) {
	t.Helper()
	holds(t, g.disk, s)
	memoryIs(t, g.ram, memory)
	diskIs(t, g.disk, cells)
}

// fires has a command done when it is due, and tells the status behind it, that is forgotten then.
func (g *rig) fires(t *testing.T, sector, address, command uint32) uint32 {
	t.Helper()
	writes(t, g.disk, 0, sector, 40)
	writes(t, g.disk, 4, address, 40)
	writes(t, g.disk, 8, command, 40)
	holds(t, g.disk, state{sector, address, command, 1})
	takes(t, g.disk, g.wheel, 5, 72)
	status, _ := g.disk.Read(12)
	holds(t, g.disk, state{sector, address, command, status})
	writes(t, g.disk, 12, 6, 72)
	holds(t, g.disk, state{sector, address, command, 0})
	return status
}

// carry has a sector's bytes in memory, or memory's in the sector, one at a time.
func carry(memory, cells []byte, sector, address, command uint32) {
	for i := range uint32(64) {
		if command == 1 {
			memory[address+i] = cells[sector*64+i]
		} else {
			cells[sector*64+i] = memory[address+i]
		}
	}
}

// succeeds asks that a command is done, and that all other bytes of memory and of the disk stay.
func (g *rig) succeeds(t *testing.T, sector, address, command uint32) {
	t.Helper()
	memory, cells := all(g.ram), g.disk.Bytes()
	if status := g.fires(t, sector, address, command); status != 2 {
		t.Fatalf("command %d of sector %d of %d at %d of %d: status %d", command, sector, len(cells)/64, address, len(memory), status)
	}
	carry(memory, cells, sector, address, command)
	memoryIs(t, g.ram, memory)
	diskIs(t, g.disk, cells)
}

// fails asks that a command is an error, and that no byte is put anywhere.
func (g *rig) fails(t *testing.T, sector, address, command uint32) {
	t.Helper()
	for page := range api.MaxPages {
		g.ram.Mark(page)
	}
	g.ram.Written()
	memory, cells := all(g.ram), g.disk.Bytes()
	if status := g.fires(t, sector, address, command); status != 6 {
		t.Fatalf("command %d of sector %d of %d at %d of %d: status %d", command, sector, len(cells)/64, address, len(memory), status)
	}
	memoryIs(t, g.ram, memory)
	diskIs(t, g.disk, cells)
	if pages := g.ram.Written(); len(pages) > 0 {
		t.Fatalf("command %d of sector %d of %d at %d of %d: pages %v are written", command, sector, len(cells)/64, address, len(memory), pages)
	}
}

// P14.1, P14.2: at first all words are 0, nothing is asked for, and what is due of any device and all of memory is as it was.
func TestNew(t *testing.T) {
	for device := range api.MaxEvents {
		w, r := wheel.New(), filled(2)
		r.Mark(1)
		before := all(r)
		holds(t, New(device, w, r, picture(200)), state{})
		dueAll(t, w)
		for d := range api.MaxEvents {
			w.Arm(d, int64(100-d))
		}
		events := w.All()
		holds(t, New(device, w, r, picture(64)), state{})
		dueAll(t, w, events...)
		memoryIs(t, r, before)
		if r.Marked(0) || !r.Marked(1) || len(r.Written()) > 0 {
			t.Fatal("the pages are not as they were")
		}
	}
}

// R1: without a wheel, or without a memory, there is no disk.
func TestNewWithoutWheelOrMemory(t *testing.T) {
	w, r := wheel.New(), filled(1)
	before := all(r)
	for _, device := range append(strangers(), 0, 1, 5, 15) {
		for _, image := range [][]byte{nil, {}, picture(1), picture(64), picture(9999)} {
			if New(device, nil, r, image) != nil {
				t.Fatalf("device %d, no wheel: a disk", device)
			}
			if New(device, w, nil, image) != nil {
				t.Fatalf("device %d, no memory: a disk", device)
			}
			if New(device, nil, nil, image) != nil {
				t.Fatalf("device %d, neither: a disk", device)
			}
		}
	}
	dueAll(t, w)
	memoryIs(t, r, before)
}

// sizes are how many bytes an image has: each up to beyond three sectors, those about each further end of a sector, about MaxDisk sectors, and far more.
func sizes() []int {
	list := []int{5000, 8191, 8192, 1 << 14, 1<<16 - 1, 1 << 16, 1<<16 + 65, 1 << 20}
	for size := range 200 {
		list = append(list, size)
	}
	for sector := 4; sector <= 66; sector++ {
		list = append(list, sector*64-1, sector*64, sector*64+1)
	}
	return list
}

// P14.1: there are as many sectors as the image needs, MaxDisk at most; the last one is filled with 0, though the image has other bytes in its spare room.
func TestSectors(t *testing.T) {
	w, r := wheel.New(), filled(1)
	for _, size := range sizes() {
		image := picture(size + 100)[:size]
		var want []byte
		for at := 0; at < size && at < 64*64; at += 64 {
			sector := [64]byte{}
			copy(sector[:], image[at:])
			want = append(want, sector[:]...)
		}
		d := New(5, w, r, image)
		for range 2 {
			diskIs(t, d, want)
		}
		holds(t, d, state{})
	}
}

// P14.1: the counts of sectors that the chapter and the limits name.
func TestCountOfSectors(t *testing.T) {
	for size, want := range map[int]int{0: 0, 1: 1, 63: 1, 64: 1, 65: 2, 127: 2, 128: 2, 129: 3, 640: 10, 641: 11, 4031: 63, 4032: 63, 4033: 64, 4095: 64, 4096: 64, 4097: 64, 4160: 64, 99999: 64} {
		d := New(5, wheel.New(), ram.New(1), picture(size))
		if got := d.Sectors(); got != want {
			t.Errorf("image of %d bytes: %d sectors, want %d", size, got, want)
		}
		if got := len(d.Bytes()); got != want*64 {
			t.Errorf("image of %d bytes: %d bytes, want %d", size, got, want*64)
		}
	}
}

// P14.1, R4: nothing, nil or not, with room behind it or not, is a disk without sectors.
func TestImageOfNothing(t *testing.T) {
	for _, image := range [][]byte{nil, {}, make([]byte, 0, 100), picture(200)[:0], picture(200)[70:70]} {
		d := New(5, wheel.New(), filled(1), image)
		holds(t, d, state{})
		if d.Sectors() != 0 || len(d.Bytes()) != 0 {
			t.Fatalf("%d sectors, %d bytes", d.Sectors(), len(d.Bytes()))
		}
	}
}

// fill has all bytes of a row anew, its spare room too.
func fill(row []byte) {
	for i := range row[:cap(row)] {
		row[:cap(row)][i] = 0xa5
	}
}

// R2: the image, its spare room too, is neither changed by any call nor kept: what is done to it behind New is not seen.
func TestImageStays(t *testing.T) {
	for _, size := range []int{0, 1, 63, 64, 65, 128, 200, 4000, 4096, 4097, 5000} {
		whole := picture(size + 130)
		image := whole[: size : size+100]
		r := filled(1)
		d := New(5, wheel.New(), r, image)
		sectors := uint32(d.Sectors())
		for sector := range sectors {
			writes(t, d, 0, sector, 0)
			writes(t, d, 4, sector*3, 0)
			writes(t, d, 8, 2, 0)
			d.Fire(32)
			writes(t, d, 8, 1, 0)
			d.Fire(32)
		}
		fill(d.Bytes())
		same(t, "image", whole, picture(size+130))
		cells, memory := d.Bytes(), all(r)
		fill(image)
		diskIs(t, d, cells)
		for sector := range sectors {
			writes(t, d, 0, sector, 0)
			writes(t, d, 4, 900, 0)
			writes(t, d, 8, 1, 0)
			d.Fire(32)
			carry(memory, cells, sector, 900, 1)
			memoryIs(t, r, memory)
		}
		diskIs(t, d, cells)
	}
}

// R2: what is done to an answer of Bytes, its spare room too, is seen neither in the next one nor on the disk, nor are commands seen in the answer.
func TestBytesIsNew(t *testing.T) {
	for _, size := range []int{0, 1, 64, 65, 1000, 4096, 4097} {
		g := newRig(1, size)
		before := g.disk.Bytes()
		want := slices.Clone(before)
		first, second := g.disk.Bytes(), g.disk.Bytes()
		fill(first)
		same(t, "second answer", second, want)
		diskIs(t, g.disk, want)
		fill(second)
		diskIs(t, g.disk, want)
		for sector := range uint32(g.disk.Sectors()) {
			g.succeeds(t, sector, 7, 1)
			g.succeeds(t, sector, 700, 2)
		}
		same(t, "first answer", before, want)
		if size > 0 && bytes.Equal(g.disk.Bytes(), want) {
			t.Fatal("nothing was written")
		}
	}
}

// P14.1, P14.2: the chapter's run and its examples.
func TestRun(t *testing.T) {
	w, r := wheel.New(), ram.New(1)
	d := New(5, w, r, []byte("sector"))
	writes(t, d, 0, 99, 0)
	writes(t, d, 8, 1, 0)
	due(t, w, 5, 32)
	takes(t, d, w, 5, 32)
	holds(t, d, state{99, 0, 1, 6})
	writes(t, d, 12, 6, 40)
	writes(t, d, 0, 0, 40)
	writes(t, d, 8, 3, 40)
	takes(t, d, w, 5, 72)
	holds(t, d, state{0, 0, 3, 6})
	memoryIs(t, r, make([]byte, 1024))
	writes(t, d, 12, 6, 80)
	writes(t, d, 4, 0x201, 80)
	writes(t, d, 8, 1, 80)
	takes(t, d, w, 5, 112)
	holds(t, d, state{0, 0x201, 1, 2})
	if got, _ := r.Bytes(0x200, 8); string(got) != "\x00sector\x00" {
		t.Fatalf("read: %q", got)
	}
	if got := New(5, w, r, nil).Sectors(); got != 0 {
		t.Fatalf("New of nothing: %d sectors", got)
	}
}

// P14.1, R3: Read of what is no word is 0, false, and nothing.
func TestReadOfOthers(t *testing.T) {
	eachState(t, func(g *rig, s state) {
		before, cells, events := all(g.ram), g.disk.Bytes(), g.wheel.All()
		for _, at := range others() {
			if v, ok := g.disk.Read(at); v != 0 || ok {
				t.Fatalf("Read(%#x): %#x, %v", at, v, ok)
			}
		}
		g.holds(t, s, before, cells)
		dueAll(t, g.wheel, events...)
	})
}

// P14.1: Read tells each of the words, with any in the others.
func TestRead(t *testing.T) {
	list := words()
	for status := range uint32(8) {
		for i, v := range list {
			made(t, state{v, list[(i+11)%len(list)], list[(i+29)%len(list)], status})
		}
	}
}

// P14.1, R3: Write of what is no word is false, and nothing: no word, and no event, nor its number.
func TestWriteOfOthers(t *testing.T) {
	eachState(t, func(g *rig, s state) {
		before, cells, events := all(g.ram), g.disk.Bytes(), g.wheel.All()
		for _, at := range others() {
			for _, v := range []uint32{0, 1, 2, 3, 4, 6, 7, math.MaxUint32} {
				if g.disk.Write(at, v, 9) {
					t.Fatalf("Write(%#x, %#x): true", at, v)
				}
			}
		}
		g.holds(t, s, before, cells)
		dueAll(t, g.wheel, events...)
		g.wheel.Arm(5, 0)
		if first := g.wheel.All()[0]; first.Seq != int64(len(events))+1 {
			t.Fatalf("%d were armed, not %d", first.Seq, len(events)+1)
		}
	})
}

// P14.1: sector and address are the words that were written, whole, while it is busy too, and nothing else is turned by them.
func TestWriteOfSectorAndAddress(t *testing.T) {
	eachState(t, func(g *rig, s state) {
		before, cells, events := all(g.ram), g.disk.Bytes(), g.wheel.All()
		for _, now := range []int64{0, 90, 1 << 40, 7} {
			for _, v := range append(words(), 1, 0x123) {
				writes(t, g.disk, 0, v, now)
				s.sector = v
				holds(t, g.disk, s)
				writes(t, g.disk, 4, v+77, now)
				s.address = v + 77
				holds(t, g.disk, s)
			}
		}
		g.holds(t, s, before, cells)
		dueAll(t, g.wheel, events...)
	})
}

// P14.1: each word at 8, a command or not: of a disk that is not busy it is the command, busy is 1, and the device is armed at now + 32, whatever now is and was; done and error stay, and nothing is put anywhere as yet.
func TestWriteCommand(t *testing.T) {
	for status := uint32(0); status < 8; status += 2 {
		for i, v := range words() {
			g := made(t, state{1, 0x123, 2, status})
			before, cells := all(g.ram), g.disk.Bytes()
			now := moments()[i%len(moments())]
			g.wheel.Arm(6, now+32)
			g.wheel.Arm(7, now+32)
			writes(t, g.disk, 8, v, now)
			g.holds(t, state{1, 0x123, v, status + 1}, before, cells)
			dueAll(t, g.wheel, api.Event{At: now + 32, Device: 6, Seq: 1}, api.Event{At: now + 32, Device: 7, Seq: 2}, api.Event{At: now + 32, Device: 5, Seq: 3})
		}
	}
}

// P14.1: every command, at times that go back, of disks with and without sectors, takes as long.
func TestTimeOfCommand(t *testing.T) {
	for _, size := range []int{0, 1, 64, 4096} {
		for _, command := range []uint32{0, 1, 2, 3, math.MaxUint32} {
			for _, now := range moments() {
				g := newRig(1, size)
				writes(t, g.disk, 8, 3, 1<<40)
				takes(t, g.disk, g.wheel, 5, 1<<40+32)
				writes(t, g.disk, 12, 6, 0)
				writes(t, g.disk, 8, command, now)
				holds(t, g.disk, state{0, 0, command, 1})
				dueAll(t, g.wheel, api.Event{At: now + 32, Device: 5, Seq: 1})
				takes(t, g.disk, g.wheel, 5, now+32)
				dueAll(t, g.wheel)
			}
		}
	}
}

// P14.1: Write at 8 of one that is busy is nothing, of any word at any now: the command stays, and what is armed, its number too.
func TestCommandWhileBusy(t *testing.T) {
	for _, command := range []uint32{0, 1, 2, 3, math.MaxUint32} {
		for status := uint32(1); status < 8; status += 2 {
			s := state{1, 0x123, command, status}
			g := made(t, s)
			before, cells := all(g.ram), g.disk.Bytes()
			event := api.Event{At: 132, Device: 5, Seq: 1}
			for _, now := range moments() {
				for _, v := range words() {
					writes(t, g.disk, 8, v, now)
					holds(t, g.disk, s)
				}
				dueAll(t, g.wheel, event)
			}
			g.holds(t, s, before, cells)
			g.wheel.Arm(6, 0)
			dueAll(t, g.wheel, api.Event{At: 0, Device: 6, Seq: 2}, event)
		}
	}
}

// P14.1: whatever others did with the device: a command goes by busy alone.
func TestCommandOfWhatOthersArmed(t *testing.T) {
	g := newRig(1, 64)
	g.wheel.Arm(5, 7)
	writes(t, g.disk, 8, 1, 50)
	due(t, g.wheel, 5, 82)
	g.wheel.Cancel(5)
	writes(t, g.disk, 8, 2, 60)
	due(t, g.wheel, 5, none)
	holds(t, g.disk, state{0, 0, 1, 1})
	g.disk.Fire(70)
	due(t, g.wheel, 5, none)
	writes(t, g.disk, 8, 2, 60)
	due(t, g.wheel, 5, 92)
	holds(t, g.disk, state{0, 0, 2, 3})
}

// P14.1, P14.2: words that are written while it is busy leave the time, and are what Fire goes by; the command is the first one's.
func TestWordsWrittenWhileBusy(t *testing.T) {
	for _, c := range []struct {
		first, second state
		status        uint32
	}{
		{state{0, 100, 1, 0}, state{2, 300, 1, 0}, 2},
		{state{0, 100, 2, 0}, state{2, 300, 2, 0}, 2},
		{state{0, 100, 1, 0}, state{2, 300, 2, 0}, 2},
		{state{0, 100, 2, 0}, state{2, 300, 1, 0}, 2},
		{state{0, 100, 1, 0}, state{1, 100, 3, 0}, 2},
		{state{0, 100, 3, 0}, state{1, 100, 1, 0}, 6},
		{state{0, 100, 1, 0}, state{3, 100, 1, 0}, 6},
		{state{0, 100, 1, 0}, state{0, 2000, 1, 0}, 6},
		{state{0, 100, 2, 0}, state{0, 2000, 2, 0}, 6},
		{state{9, 100, 2, 0}, state{1, 100, 2, 0}, 2},
		{state{0, 9999, 1, 0}, state{0, 100, 1, 0}, 2},
	} {
		g := newRig(2, 170)
		before, cells := all(g.ram), g.disk.Bytes()
		writes(t, g.disk, 0, c.first.sector, 10)
		writes(t, g.disk, 4, c.first.address, 10)
		writes(t, g.disk, 8, c.first.command, 10)
		writes(t, g.disk, 0, c.second.sector, 20)
		writes(t, g.disk, 4, c.second.address, 20)
		writes(t, g.disk, 8, c.second.command, 20)
		due(t, g.wheel, 5, 42)
		takes(t, g.disk, g.wheel, 5, 42)
		if c.status == 2 {
			carry(before, cells, c.second.sector, c.second.address, c.first.command)
		}
		g.holds(t, state{c.second.sector, c.second.address, c.first.command, c.status}, before, cells)
	}
}

// P14.1: Write at 12 has done and error 0 where the word's bits 1 and 2 are 1, and does nothing else: busy stays, and what is armed.
func TestWriteStatus(t *testing.T) {
	for status := range uint32(8) {
		for _, v := range words() {
			s := state{2, 0x321, 2, status}
			g := made(t, s)
			before, cells, events := all(g.ram), g.disk.Bytes(), g.wheel.All()
			for _, now := range []int64{7, 1 << 40} {
				writes(t, g.disk, 12, v, now)
				if v/2%2 == 1 && s.status/2%2 == 1 {
					s.status -= 2
				}
				if v/4%2 == 1 && s.status/4 == 1 {
					s.status -= 4
				}
				g.holds(t, s, before, cells)
			}
			dueAll(t, g.wheel, events...)
		}
	}
}

// P14.1, P14.2: what was forgotten is told again behind the next Fire, and only what applies then; an error stays till it is forgotten, though later commands are right.
func TestStatusAnew(t *testing.T) {
	d := New(5, wheel.New(), ram.New(1), picture(64))
	for _, c := range []struct{ sector, command, v, behind, left uint32 }{
		{0, 1, 2, 2, 0}, {1, 1, 2, 6, 4}, {0, 2, 2, 6, 4}, {0, 1, 4, 6, 2}, {0, 2, 2, 2, 0}, {0, 3, 4, 6, 2}, {0, 0, 6, 6, 0}, {0, 1, 4, 2, 2}, {0, 2, 5, 2, 2}, {1, 2, 1, 6, 6}, {0, 2, 0, 6, 6}, {0, 1, 6, 6, 0}, {0, 1, 7, 2, 0},
	} {
		writes(t, d, 0, c.sector, 0)
		writes(t, d, 8, c.command, 0)
		d.Fire(2)
		holds(t, d, state{c.sector, 0, c.command, c.behind})
		writes(t, d, 12, c.v, 3)
		holds(t, d, state{c.sector, 0, c.command, c.left})
	}
}

// P14.2: each sector of disks of one, of several and of MaxDisk, read and written at the beginning of memory, in the midst, and where its bytes end just with memory.
func TestEachSector(t *testing.T) {
	for _, size := range []int{1, 64, 65, 128, 1000, 4033, 4096, 5000} {
		for _, pages := range []int{1, 3, 64} {
			g := newRig(pages, size)
			end := g.ram.Size() - 64
			for sector := range uint32(g.disk.Sectors()) {
				for i, address := range []uint32{0, 1, sector*3 + 65, end / 2, end - 1, end} {
					g.succeeds(t, sector, address, 1)
					g.succeeds(t, sector, end-address, 2)
					g.ram.Store(address, 1, sector*7+uint32(i))
				}
			}
		}
	}
}

// P14.2: a sector that is none is an error, however small or great the disk is, and though some of its bits, or its place modulo 2^32, would be a sector's.
func TestNoSuchSector(t *testing.T) {
	for _, size := range []int{0, 1, 64, 65, 200, 1000, 4096, 9999} {
		g := newRig(2, size)
		count := uint32(g.disk.Sectors())
		list := []uint32{count, count + 1, count + 2, 64, 65, 66, 99, 127, math.MaxUint32 - 63, math.MaxUint32 - 1, math.MaxUint32}
		for bit := 7; bit < 32; bit++ {
			list = append(list, 1<<bit-1, 1<<bit, 1<<bit+1, 1<<bit+count)
		}
		for _, sector := range list {
			for _, address := range []uint32{0, 64, 1984} {
				g.fails(t, sector, address, 1)
				g.fails(t, sector, address, 2)
			}
		}
	}
}

// P14.2: a disk without sectors has none to read or write.
func TestNoSectors(t *testing.T) {
	g := newRig(1, 0)
	for _, sector := range words() {
		for _, command := range []uint32{0, 1, 2, 3} {
			g.fails(t, sector, 0, command)
			g.fails(t, sector, 960, command)
		}
	}
}

// P14.2: each command but 1 and 2 is an error, though some of its bits would be a command.
func TestNoSuchCommand(t *testing.T) {
	g := newRig(2, 300)
	for command := range uint32(300) {
		if command != 1 && command != 2 {
			g.fails(t, 1, 0x55, command)
		}
	}
	list := words()
	for bit := 2; bit < 32; bit++ {
		list = append(list, 1<<bit+1, 1<<bit+2)
	}
	for _, command := range list {
		if command != 1 && command != 2 {
			g.fails(t, 0, 0, command)
			g.fails(t, 4, 1984, command)
		}
	}
}

// P14.2: each address of a page: where not all Sector bytes are in memory it is an error, and else they are put.
func TestEachAddress(t *testing.T) {
	for address := range uint32(1100) {
		g := newRig(1, 170)
		for _, command := range []uint32{1, 2} {
			if address <= 960 {
				g.succeeds(t, command, address, command)
			} else {
				g.fails(t, command, address, command)
			}
		}
	}
}

// P14.2: about the end of memories of each size, and about the ends of their pages.
func TestEndOfMemory(t *testing.T) {
	for pages := 1; pages <= api.MaxPages; pages++ {
		g := newRig(pages, 4096)
		size := g.ram.Size()
		for _, command := range []uint32{1, 2} {
			for i := range uint32(3) {
				g.succeeds(t, 5+i, size-64-i, command)
				g.succeeds(t, 9+i, size-1024+i, command)
				g.fails(t, 5, size-63+i, command)
				g.fails(t, 5, size-1+i, command)
				g.fails(t, 5, size+63+i, command)
				g.fails(t, 5, size+1023+i, command)
			}
		}
	}
}

// P14.2: addresses far beyond memory are not in it, though some of their bits, or their sum with Sector, would be.
func TestFarAddresses(t *testing.T) {
	far := []uint32{
		1 << 16, 1<<16 + 5, 1 << 17, 1 << 20, 1 << 24, 0x1f000000, 0x1f000140, 1<<31 - 64, 1<<31 - 1, 1 << 31, 1<<31 + 1, 1<<31 + 1024, 0x80000400, 0xa0000000, 0xbfc00000, 0xf0000000,
		math.MaxUint32 - 1023, math.MaxUint32 - 127, math.MaxUint32 - 64, math.MaxUint32 - 63, math.MaxUint32 - 62, math.MaxUint32 - 31, math.MaxUint32 - 1, math.MaxUint32,
	}
	for _, pages := range []int{1, 5, 64} {
		g := newRig(pages, 4096)
		for _, address := range far {
			for _, sector := range []uint32{0, 1, 63} {
				g.fails(t, sector, address, 1)
				g.fails(t, sector, address, 2)
			}
		}
	}
}

// P14.2: each bit of sector and address counts.
func TestEachBit(t *testing.T) {
	g := newRig(64, 4096)
	for bit := range 16 {
		for _, address := range []uint32{1 << bit, 1<<bit - 1, 1<<16 - 65 - 1<<bit} {
			g.succeeds(t, uint32(bit), address, 1)
			g.succeeds(t, uint32(bit)+40, address, 2)
		}
	}
	for bit := range 6 {
		for _, sector := range []uint32{1 << bit, 1<<bit - 1, 63 - 1<<bit} {
			g.succeeds(t, sector, 0x4321, 1)
			g.succeeds(t, sector, 0x7531, 2)
		}
	}
}

// P14.2: where several things are wrong at once it is an error as where one is.
func TestSeveralErrors(t *testing.T) {
	g := newRig(1, 100)
	for _, sector := range []uint32{0, 1, 2, math.MaxUint32} {
		for _, address := range []uint32{0, 960, 961, 1024, math.MaxUint32} {
			for _, command := range []uint32{0, 1, 2, 3, math.MaxUint32} {
				if sector < 2 && address <= 960 && (command == 1 || command == 2) {
					g.succeeds(t, sector, address, command)
				} else {
					g.fails(t, sector, address, command)
				}
			}
		}
	}
}

// P14.2: what was written is read again, into another place, and Bytes tells it; what becomes of the first place behind that is not seen.
func TestThereAndBack(t *testing.T) {
	g := newRig(4, 4096)
	for sector := range uint32(64) {
		from, to := sector*31, 2048+sector*29
		want, _ := g.ram.Bytes(from, 64)
		g.succeeds(t, sector, from, 2)
		same(t, "Bytes", g.disk.Bytes()[sector*64:][:64], want)
		g.ram.Put(from, make([]byte, 64))
		same(t, "Bytes", g.disk.Bytes()[sector*64:][:64], want)
		g.succeeds(t, sector, to, 1)
		got, _ := g.ram.Bytes(to, 64)
		same(t, "memory", got, want)
		g.ram.Put(to, make([]byte, 64))
		same(t, "Bytes", g.disk.Bytes()[sector*64:][:64], want)
	}
}

// P14.2: the bytes go by what is in memory when it fires, not when the command was written.
func TestFireOfWhatIsThere(t *testing.T) {
	g := newRig(1, 64)
	cells := g.disk.Bytes()
	writes(t, g.disk, 4, 0x20, 0)
	writes(t, g.disk, 8, 2, 0)
	g.ram.Store(0x20, 4, 0xcafe1234)
	g.ram.Store(0x5c, 4, 0x98765432)
	diskIs(t, g.disk, cells)
	want, _ := g.ram.Bytes(0x20, 64)
	takes(t, g.disk, g.wheel, 5, 32)
	diskIs(t, g.disk, want)
}

// P14.2: Fire with each status, busy or not, of each command; it neither arms nor cancels anything, at any time, and an error stays.
func TestFireOfEachStatus(t *testing.T) {
	for _, at := range append(moments(), -1, math.MinInt64, math.MaxInt64) {
		eachState(t, func(g *rig, s state) {
			g.wheel.Arm(6, 3)
			g.wheel.Arm(5, 9)
			before, cells, events := all(g.ram), g.disk.Bytes(), g.wheel.All()
			g.disk.Fire(at)
			s.status = s.status/4*4 + 2
			if s.command == 1 || s.command == 2 {
				carry(before, cells, s.sector, s.address, s.command)
			} else {
				s.status = 6
			}
			g.holds(t, s, before, cells)
			dueAll(t, g.wheel, events...)
		})
		eachState(t, func(g *rig, s state) {
			g.wheel.Arm(6, 3)
			g.wheel.Cancel(5)
			before, cells, events := all(g.ram), g.disk.Bytes(), g.wheel.All()
			s.address, s.status = 1985, 6
			writes(t, g.disk, 4, s.address, 0)
			g.disk.Fire(at)
			g.holds(t, s, before, cells)
			dueAll(t, g.wheel, events...)
		})
	}
}

// P14.2: several Fires one behind the other: each does the command with what is there by then; of a new disk, whose command is 0, it is an error.
func TestFireAgain(t *testing.T) {
	g := newRig(1, 170)
	memory, cells := all(g.ram), g.disk.Bytes()
	g.disk.Fire(0)
	g.holds(t, state{0, 0, 0, 6}, memory, cells)
	for i := range uint32(60) {
		writes(t, g.disk, 12, 6, 0)
		command := 1 + i/3%2
		if i%3 == 0 {
			writes(t, g.disk, 8, command, 0)
		}
		s := state{i % 3, i * 15, command, 2}
		writes(t, g.disk, 0, s.sector, 0)
		writes(t, g.disk, 4, s.address, 0)
		for at := range int64(3) {
			g.ram.Store(s.address+3, 1, i)
			memory[s.address+3] = byte(i)
			g.disk.Fire(100 - at)
			carry(memory, cells, s.sector, s.address, s.command)
			g.holds(t, s, memory, cells)
		}
	}
}

// P14.2: behind a Fire error stays 1 till it is forgotten, though later commands are right; done comes each time.
func TestErrorStays(t *testing.T) {
	g := newRig(1, 170)
	memory, cells := all(g.ram), g.disk.Bytes()
	g.disk.Fire(0)
	for i := range uint32(6) {
		s := state{i % 3, i * 100, 1 + i%2, 5}
		writes(t, g.disk, 0, s.sector, 0)
		writes(t, g.disk, 4, s.address, 0)
		writes(t, g.disk, 12, 2, 0)
		writes(t, g.disk, 8, s.command, 0)
		g.holds(t, s, memory, cells)
		g.disk.Fire(0)
		carry(memory, cells, s.sector, s.address, s.command)
		s.status = 6
		g.holds(t, s, memory, cells)
	}
	writes(t, g.disk, 12, 4, 0)
	g.disk.Fire(0)
	holds(t, g.disk, state{2, 500, 2, 2})
}

// P14.2: the marked pages that bytes are read into are told as written, of the same bytes too; those that are written from, those that are not marked, and those of an error are not.
func TestMarkedPages(t *testing.T) {
	every := []int{0, 1, 2, 3}
	for _, c := range []struct {
		marked                   []int
		sector, address, command uint32
		written                  []int
	}{
		{nil, 0, 0, 1, nil},
		{[]int{1}, 0, 0, 1, nil},
		{[]int{0, 2}, 0, 1024, 1, nil},
		{[]int{0}, 0, 0, 1, []int{0}},
		{every, 0, 0, 1, []int{0}},
		{every, 1, 960, 1, []int{0}},
		{every, 1, 961, 1, []int{0, 1}},
		{every, 2, 1023, 1, []int{0, 1}},
		{[]int{0, 2, 3}, 2, 1023, 1, []int{0}},
		{[]int{1, 2, 3}, 2, 1023, 1, []int{1}},
		{every, 2, 1024, 1, []int{1}},
		{every, 2, 2047, 1, []int{1, 2}},
		{every, 2, 4032, 1, []int{3}},
		{every, 0, 0, 2, nil},
		{every, 2, 1000, 2, nil},
		{every, 2, 4032, 2, nil},
		{every, 0, 0, 0, nil},
		{every, 0, 1000, 3, nil},
		{every, 3, 1000, 1, nil},
		{every, 0, 4033, 1, nil},
		{every, 0, 4095, 1, nil},
		{every, 0, 4096, 1, nil},
	} {
		g := newRig(4, 170)
		for _, page := range c.marked {
			g.ram.Mark(page)
		}
		for range 2 {
			g.fires(t, c.sector, c.address, c.command)
			if got := g.ram.Written(); !slices.Equal(got, c.written) {
				t.Errorf("command %d at %d, marked %v: %v are written, want %v", c.command, c.address, c.marked, got, c.written)
			}
			if got := g.ram.Written(); len(got) > 0 {
				t.Errorf("command %d at %d: %v are written once more", c.command, c.address, got)
			}
		}
		for page := range 4 {
			if g.ram.Marked(page) != slices.Contains(c.marked, page) {
				t.Errorf("command %d at %d: page %d: marked is %v", c.command, c.address, page, g.ram.Marked(page))
			}
		}
	}
}

// P14.1: the words alone, commands too, write no page.
func TestWritesWriteNoPage(t *testing.T) {
	eachState(t, func(g *rig, s state) {
		g.ram.Mark(0)
		g.ram.Mark(1)
		before, cells := all(g.ram), g.disk.Bytes()
		for at := uint32(0); at < 24; at += 4 {
			for _, v := range words() {
				g.disk.Write(at, v, 5)
			}
		}
		if got := g.ram.Written(); len(got) > 0 {
			t.Fatalf("%v are written", got)
		}
		memoryIs(t, g.ram, before)
		diskIs(t, g.disk, cells)
	})
}

// P14.2: Line behind each call: it is done or error, not busy.
func TestLine(t *testing.T) {
	d := New(5, wheel.New(), ram.New(1), picture(64))
	asked := func(want bool) {
		t.Helper()
		for range 2 {
			if d.Line() != want {
				t.Fatalf("Line: %v", !want)
			}
		}
	}
	// Each call, and what Line tells behind it; Write at 99 is Fire.
	calls := []struct {
		at, v uint32
		want  bool
	}{
		{0, 0, false}, {4, 4, false}, {8, 1, false}, {8, 1, false}, {99, 0, true}, {8, 2, true}, {12, 4, true}, {12, 1, true}, {12, 2, false},
		{0, 1, false}, {99, 0, true}, {12, 2, true}, {8, 1, true}, {12, 4, false}, {99, 0, true}, {12, 4, true}, {12, 6, false},
		{8, 3, false}, {0, 0, false}, {99, 0, true}, {99, 0, true}, {12, 0, true}, {12, 0xfffffff9, true}, {12, 0xffffffff, false}, {16, 1, false},
	}
	asked(false)
	for range 3 {
		for _, c := range calls {
			if c.at == 99 {
				d.Fire(2)
			} else {
				d.Write(c.at, c.v, 0)
			}
			asked(c.want)
		}
	}
}

// P14.1, P14.2: two disks of one image, of one wheel and one memory, and other devices: neither sees the other's words or bytes, and each one's event is its own.
func TestTwoDisks(t *testing.T) {
	w, r, image := wheel.New(), filled(1), picture(128)
	one, other := New(5, w, r, image), New(6, w, r, image)
	memory, near, far := all(r), one.Bytes(), other.Bytes()
	same(t, "both", near, far)
	w.Arm(1, 50)
	w.Arm(7, 2)
	writes(t, one, 4, 100, 9)
	writes(t, one, 8, 2, 9)
	holds(t, one, state{0, 100, 2, 1})
	holds(t, other, state{})
	writes(t, other, 0, 1, 9)
	writes(t, other, 4, 130, 9)
	writes(t, other, 8, 1, 9)
	holds(t, one, state{0, 100, 2, 1})
	holds(t, other, state{1, 130, 1, 1})
	dueAll(t, w, api.Event{At: 2, Device: 7, Seq: 1}, api.Event{At: 41, Device: 5, Seq: 2}, api.Event{At: 41, Device: 6, Seq: 3}, api.Event{At: 50, Device: 1, Seq: 0})
	w.Cancel(7)
	takes(t, one, w, 5, 41)
	carry(memory, near, 0, 100, 2)
	diskIs(t, one, near)
	diskIs(t, other, far)
	memoryIs(t, r, memory)
	holds(t, one, state{0, 100, 2, 2})
	holds(t, other, state{1, 130, 1, 1})
	takes(t, other, w, 6, 41)
	carry(memory, far, 1, 130, 1)
	diskIs(t, one, near)
	diskIs(t, other, far)
	memoryIs(t, r, memory)
	writes(t, one, 12, 2, 50)
	holds(t, one, state{0, 100, 2, 0})
	holds(t, other, state{1, 130, 1, 2})
	writes(t, one, 0, 2, 50)
	one.Fire(50)
	holds(t, one, state{2, 100, 2, 6})
	holds(t, other, state{1, 130, 1, 2})
	third := New(5, w, r, image)
	holds(t, third, state{})
	diskIs(t, third, picture(128))
	dueAll(t, w, api.Event{At: 50, Device: 1, Seq: 0})
}

// P14.1, P14.2: disks of the same device on two wheels, each with a memory of its own.
func TestTwoWheels(t *testing.T) {
	one, other := newRig(1, 64), newRig(2, 200)
	small, great := all(one.ram), all(other.ram)
	few, many := one.disk.Bytes(), other.disk.Bytes()
	writes(t, one.disk, 4, 960, 5)
	writes(t, other.disk, 4, 1960, 5)
	writes(t, other.disk, 0, 3, 5)
	writes(t, one.disk, 8, 1, 5)
	due(t, one.wheel, 5, 37)
	due(t, other.wheel, 5, none)
	writes(t, other.disk, 8, 2, 7)
	due(t, one.wheel, 5, 37)
	due(t, other.wheel, 5, 39)
	takes(t, one.disk, one.wheel, 5, 37)
	carry(small, few, 0, 960, 1)
	one.holds(t, state{0, 960, 1, 2}, small, few)
	other.holds(t, state{3, 1960, 2, 1}, great, many)
	due(t, other.wheel, 5, 39)
	takes(t, other.disk, other.wheel, 5, 39)
	carry(great, many, 3, 1960, 2)
	one.holds(t, state{0, 960, 1, 2}, small, few)
	other.holds(t, state{3, 1960, 2, 2}, great, many)
}

// P14.1, P14.2: each device, with all others due: its own event alone comes and goes.
func TestEachDevice(t *testing.T) {
	for device := range api.MaxEvents {
		w, r := wheel.New(), filled(1)
		for d := range api.MaxEvents {
			if d != device {
				w.Arm(d, int64(90+d))
			}
		}
		events := w.All()
		d := New(device, w, r, picture(64))
		memory, cells := all(r), d.Bytes()
		writes(t, d, 4, 7, 6)
		writes(t, d, 8, 1, 6)
		takes(t, d, w, device, 38)
		holds(t, d, state{0, 7, 1, 2})
		carry(memory, cells, 0, 7, 1)
		memoryIs(t, r, memory)
		diskIs(t, d, cells)
		dueAll(t, w, events...)
	}
}

// P14.1, P14.2: of a number that no device has nothing is armed, but the words are words, and commands are done.
func TestStrangers(t *testing.T) {
	for _, device := range strangers() {
		w, r := wheel.New(), filled(1)
		w.Arm(5, 30)
		events := w.All()
		d := New(device, w, r, picture(64))
		memory, cells := all(r), d.Bytes()
		writes(t, d, 4, 7, 6)
		writes(t, d, 8, 2, 6)
		holds(t, d, state{0, 7, 2, 1})
		d.Fire(38)
		holds(t, d, state{0, 7, 2, 2})
		carry(memory, cells, 0, 7, 2)
		memoryIs(t, r, memory)
		diskIs(t, d, cells)
		if d.Write(16, 1, 0) {
			t.Fatal("Write(16): true")
		}
		dueAll(t, w, events...)
	}
}

// R1, R6: times below 0 and beyond the bound: each call ends, and the words are the same as at other times.
func TestOddTimes(t *testing.T) {
	for _, now := range []int64{-1, -2, -32, -33, -1 << 32, -1 << 41, math.MinInt64, math.MinInt64 + 1, 1 << 50, 1 << 62, math.MaxInt64 - 32, math.MaxInt64 - 31, math.MaxInt64 - 1, math.MaxInt64} {
		for command := range uint32(4) {
			g := newRig(1, 100)
			memory, cells := all(g.ram), g.disk.Bytes()
			writes(t, g.disk, 0, 1, now)
			writes(t, g.disk, 4, 9, now)
			writes(t, g.disk, 8, command, now)
			g.holds(t, state{1, 9, command, 1}, memory, cells)
			g.disk.Fire(now)
			if command == 1 || command == 2 {
				carry(memory, cells, 1, 9, command)
				g.holds(t, state{1, 9, command, 2}, memory, cells)
			} else {
				g.holds(t, state{1, 9, command, 6}, memory, cells)
			}
			writes(t, g.disk, 12, 6, now)
			g.holds(t, state{1, 9, command, 0}, memory, cells)
			if g.disk.Write(3, 1, now) {
				t.Fatal("Write(3): true")
			}
		}
	}
}

// P14.1: a time below 0 counts as it stands; ahead of 0 nothing can be armed, and so what was armed stays, but it is busy.
func TestTimesBelowZero(t *testing.T) {
	for _, c := range []struct{ now, want int64 }{{-1, 31}, {-2, 30}, {-31, 1}, {-32, 0}, {-33, none}, {-34, none}, {-1 << 40, none}} {
		g := newRig(1, 64)
		writes(t, g.disk, 8, 1, c.now)
		due(t, g.wheel, 5, c.want)
		holds(t, g.disk, state{0, 0, 1, 1})
		g.disk.Fire(c.now)
		g.wheel.Arm(5, 40)
		writes(t, g.disk, 8, 2, c.now)
		holds(t, g.disk, state{0, 0, 2, 3})
		if c.want == none {
			due(t, g.wheel, 5, 40)
		} else {
			due(t, g.wheel, 5, c.want)
		}
	}
}

// memory is told plainly: its bytes, and which pages are marked and written.
type memory struct {
	bytes           []byte
	marked, written []bool
}

// plain tells a disk by rows and wide numbers, and does on a wheel of its own by hand what the disk has to do on the other one.
type plain struct {
	device            int
	wheel             *wheel.Wheel
	memory            *memory
	rows              [][64]byte
	words             [3]uint64
	busy, done, wrong bool
}

func newPlain(device int, w *wheel.Wheel, m *memory, image []byte) *plain {
	p := &plain{device: device, wheel: w, memory: m}
	for i, b := range image {
		if i/64 == 64 {
			break
		}
		if i%64 == 0 {
			p.rows = append(p.rows, [64]byte{})
		}
		p.rows[i/64][i%64] = b
	}
	return p
}

func (p *plain) write(at, v uint32, now int64) bool {
	switch {
	case at == 0 || at == 4:
		p.words[at/4] = uint64(v)
	case at == 8 && p.busy:
	case at == 8:
		p.busy = true
		p.words[2] = uint64(v)
		p.wheel.Arm(p.device, now+32)
	case at == 12:
		p.done = p.done && v/2%2 == 0
		p.wrong = p.wrong && v/4%2 == 0
	default:
		return false
	}
	return true
}

func (p *plain) fire() {
	p.busy, p.done = false, true
	sector, address, command := p.words[0], p.words[1], p.words[2]
	if sector >= uint64(len(p.rows)) || address+64 > uint64(len(p.memory.bytes)) || command != 1 && command != 2 {
		p.wrong = true
		return
	}
	for i := range uint64(64) {
		if command == 1 {
			p.memory.put(address+i, p.rows[sector][i])
		} else {
			p.rows[sector][i] = p.memory.bytes[address+i]
		}
	}
}

func (m *memory) put(at uint64, v byte) {
	m.bytes[at] = v
	if m.marked[at/1024] {
		m.written[at/1024] = true
	}
}

func (m *memory) asked() []int {
	var pages []int
	for page := range m.written {
		if m.written[page] {
			pages = append(pages, page)
		}
		m.written[page] = false
	}
	return pages
}

func (p *plain) state() state {
	s := state{sector: uint32(p.words[0]), address: uint32(p.words[1]), command: uint32(p.words[2])}
	if p.busy {
		s.status++
	}
	if p.done {
		s.status += 2
	}
	if p.wrong {
		s.status += 4
	}
	return s
}

func (p *plain) cells() []byte {
	var all []byte
	for _, row := range p.rows {
		all = append(all, row[:]...)
	}
	return all
}

// bench has two disks of one image on one wheel and one memory, and their plain tellings on others.
type bench struct {
	wheel, told *wheel.Wheel
	ram         *ram.Ram
	memory      *memory
	disks       [2]*Disk
	plains      [2]*plain
}

func newBench(pages, size int) *bench {
	b := &bench{wheel: wheel.New(), told: wheel.New(), ram: filled(pages)}
	b.memory = &memory{bytes: all(b.ram), marked: make([]bool, pages), written: make([]bool, pages)}
	image := picture(size)
	for i := range b.disks {
		b.disks[i] = New(i+5, b.wheel, b.ram, image)
		b.plains[i] = newPlain(i+5, b.told, b.memory, image)
	}
	return b
}

func (b *bench) write(t *testing.T, which int, at, v uint32, now int64) {
	want := b.plains[which].write(at, v, now)
	if got := b.disks[which].Write(at, v, now); got != want {
		t.Fatalf("Write(%#x, %#x, %d): %v, want %v", at, v, now, got, want)
	}
}

func (b *bench) fire(which int, at int64) {
	b.plains[which].fire()
	b.disks[which].Fire(at)
}

// arm has another device's event on both wheels.
func (b *bench) arm(device int, at int64) {
	b.wheel.Arm(device, at)
	b.told.Arm(device, at)
}

// take has what is due come, and the disk fire whose event it is.
func (b *bench) take(t *testing.T, now int64) {
	e, ok := b.wheel.Take(now)
	if want, is := b.told.Take(now); e != want || ok != is {
		t.Fatalf("Take(%d): %v, %v, want %v, %v", now, e, ok, want, is)
	}
	if ok && (e.Device == 5 || e.Device == 6) {
		b.fire(e.Device-5, e.At)
	}
}

// store has a byte in both memories.
func (b *bench) store(at uint32, v byte) {
	b.ram.Store(at, 1, uint32(v))
	b.memory.put(uint64(at), v)
}

func (b *bench) mark(page int, is bool) {
	if is {
		b.ram.Mark(page)
	} else {
		b.ram.Unmark(page)
		b.memory.written[page] = false
	}
	b.memory.marked[page] = is
}

func (b *bench) written(t *testing.T) {
	if got, want := b.ram.Written(), b.memory.asked(); !slices.Equal(got, want) {
		t.Fatalf("pages %v are written, want %v", got, want)
	}
}

func (b *bench) holds(t *testing.T) {
	for i, d := range b.disks {
		holds(t, d, b.plains[i].state())
		diskIs(t, d, b.plains[i].cells())
	}
	if got, want := b.wheel.All(), b.told.All(); !slices.Equal(got, want) {
		t.Fatalf("%v is due, want %v", got, want)
	}
	memoryIs(t, b.ram, b.memory.bytes)
}

// P14.1, P14.2: long rows of calls of any kind on two disks of one image, one wheel and one memory, against a plain telling.
func TestLongRows(t *testing.T) {
	for seed := range int64(16) {
		random := rand.New(rand.NewSource(seed))
		b := newBench([]int{1, 2, 5, 9}[seed%4], []int{300, 64, 4100, 0}[seed/4])
		for range 3000 {
			b.step(t, random, seed/4)
			b.holds(t)
		}
		b.written(t)
	}
}

// step makes one call of any kind; the bias has sectors and addresses be such as there are, at their ends, or any.
func (b *bench) step(t *testing.T, random *rand.Rand, bias int64) {
	t.Helper()
	which, now := random.Intn(2), int64(random.Intn(300))
	size := uint32(len(b.memory.bytes))
	sector, address := uint32(random.Intn(5)), uint32(random.Intn(int(size)-63))
	command, v := uint32(1+random.Intn(2)), uint32(random.Intn(8))
	switch bias {
	case 1:
		sector, address, command = uint32(random.Intn(2)), size-uint32(random.Intn(128)), uint32(random.Intn(4))
	case 2:
		sector = uint32(random.Intn(66))
	case 3:
		sector, address, v, now = random.Uint32()>>random.Intn(32), random.Uint32()>>random.Intn(32), random.Uint32(), int64(random.Uint64()>>(22+random.Intn(42)))
	}
	switch random.Intn(16) {
	case 0, 1:
		b.write(t, which, 0, sector, now)
	case 2, 3:
		b.write(t, which, 4, address, now)
	case 4, 5:
		b.write(t, which, 8, command, now)
	case 6:
		b.write(t, which, 8, v, now)
	case 7:
		b.write(t, which, 12, v, now)
	case 8:
		b.write(t, which, uint32(random.Intn(36)), v, now)
	case 9:
		b.write(t, which, random.Uint32(), v, now)
	case 10:
		b.fire(which, now)
	case 11:
		b.arm(7+random.Intn(9), now)
	case 12:
		b.mark(random.Intn(len(b.memory.marked)), random.Intn(3) > 0)
	case 13:
		b.written(t)
	case 14:
		b.store(uint32(random.Intn(int(size))), byte(v))
	default:
		b.take(t, now)
	}
}

// P14.1, P14.2: every row of five calls out of a few, against a plain telling.
func TestShortRows(t *testing.T) {
	const kinds, length = 12, 5
	rows := 1
	for range length {
		rows *= kinds
	}
	for row := range rows {
		b := newBench(1, 100)
		b.mark(0, true)
		for call, rest := 0, row; call < length; call, rest = call+1, rest/kinds {
			b.call(t, rest%kinds, call)
		}
		b.written(t)
		b.holds(t)
	}
}

// call makes one of the calls of short rows.
func (b *bench) call(t *testing.T, kind, count int) {
	t.Helper()
	now := int64(9 - count)
	switch kind {
	case 0, 1, 2:
		b.write(t, 0, 8, uint32(kind+1), now)
	case 3:
		b.take(t, 100)
	case 4:
		b.fire(0, 4)
	case 5:
		b.write(t, 0, 0, 1, now)
	case 6:
		b.write(t, 0, 0, 2, now)
	case 7:
		b.write(t, 0, 4, uint32(count)*50+7, now)
	case 8:
		b.write(t, 0, 4, 961, now)
	case 9, 10:
		b.write(t, 0, 12, uint32(kind-8)*2, now)
	default:
		b.write(t, 1, 8, 2, now)
	}
}
