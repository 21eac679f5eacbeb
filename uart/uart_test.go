package uart

import (
	"math"
	"math/rand"
	"slices"
	"testing"

	"pianola/api"
	"pianola/wheel"
)

// none is the answer of a wheel on which nothing is due.
const none = -1

// others are addresses at which there is no word: all others up to beyond a window, and those that would be a word's if some of their bits were lost.
func others() []uint32 {
	list := []uint32{
		1<<8 - 4, 1 << 8, 1<<8 + 4, 1<<8 + 8, 1 << 16, 1<<16 + 4, 1<<16 + 8, 0x1f0000c0, 0x1f0000c4, 0x1f0000c8,
		1<<31 - 1, 1 << 31, 1<<31 + 4, 1<<31 + 8, math.MaxUint32 - 11, math.MaxUint32 - 7, math.MaxUint32 - 3, math.MaxUint32 - 1, math.MaxUint32,
	}
	for at := range uint32(140) {
		if at != 0 && at != 4 && at != 8 {
			list = append(list, at)
		}
	}
	return list
}

// strangers are numbers of which no device may be armed.
func strangers() []int {
	return []int{-1, -2, -16, 16, 17, 19, 99, 255, 256, 259, 1<<16 + 3, 1<<32 + 3, math.MinInt, math.MinInt + 3, math.MaxInt}
}

// moments are times, and they go back.
func moments() []int64 {
	return []int64{0, 1, 10, 1<<31 - 8, 1 << 31, 1<<32 - 8, 1 << 32, 1 << 40, 1 << 41, 1<<40 - 1, 7, 0}
}

// words are some to write, each bit alone and missing among them.
func words() []uint32 {
	list := []uint32{0, 1, 2, 3, 4, 5, 6, 7, 8, 0x100, 0x10001, 0xfffffffb, 0xfffffffc, math.MaxUint32}
	for bit := range 32 {
		list = append(list, 1<<bit, math.MaxUint32-1<<bit)
	}
	return list
}

// row has count bytes from first on, one up each.
func row(first byte, count int) string {
	var bytes []byte
	for i := range count {
		bytes = append(bytes, first+byte(i))
	}
	return string(bytes)
}

func reads(t *testing.T, u *Uart, at, want uint32) {
	t.Helper()
	if got, ok := u.Read(at); got != want || !ok {
		t.Fatalf("Read(%d): %#x, %v, want %#x", at, got, ok, want)
	}
}

// holds asks for all that can be asked without taking, twice, as asking changes nothing.
func holds(t *testing.T, u *Uart, status, control uint32, line bool, out string) {
	t.Helper()
	for range 2 {
		reads(t, u, 4, status)
		reads(t, u, 8, control)
		if got := u.Line(); got != line {
			t.Fatalf("Line: %v of status %#x, control %d", got, status, control)
		}
		if got := u.Out(); string(got) != out {
			t.Fatalf("Out: %q, want %q", got, out)
		}
	}
}

// has asks for the status alone.
func has(t *testing.T, u *Uart, status uint32) {
	t.Helper()
	for range 2 {
		reads(t, u, 4, status)
	}
}

func wrote(t *testing.T, u *Uart, out string) {
	t.Helper()
	if got := u.Out(); string(got) != out {
		t.Fatalf("Out: %q, want %q", got, out)
	}
}

// gives reads what came, till there is none.
func gives(t *testing.T, u *Uart, came string) {
	t.Helper()
	for i := range len(came) {
		reads(t, u, 0, uint32(came[i]))
	}
	for range 3 {
		reads(t, u, 0, 0x100)
	}
}

func types(u *Uart, bytes string) {
	for i := range len(bytes) {
		u.Type(bytes[i])
	}
}

func writes(t *testing.T, u *Uart, at, v uint32, now int64) {
	t.Helper()
	if !u.Write(at, v, now) {
		t.Fatalf("Write(%d, %#x, %d): false", at, v, now)
	}
}

// sends has the bytes go, each at now.
func sends(t *testing.T, u *Uart, bytes string, now int64) {
	t.Helper()
	for i := range len(bytes) {
		writes(t, u, 0, uint32(bytes[i]), now)
	}
}

// due asks for the time of the device, or none.
func due(t *testing.T, w *wheel.Wheel, device int, want int64) {
	t.Helper()
	got, ok := w.At(device)
	if !ok {
		got = none
	}
	if got != want {
		t.Fatalf("device %d is due at %d, want %d", device, got, want)
	}
}

func dueAll(t *testing.T, w *wheel.Wheel, want ...api.Event) {
	t.Helper()
	if got := w.All(); !slices.Equal(got, want) {
		t.Fatalf("%v is due, want %v", got, want)
	}
}

// takes has the device's event come due, and the byte put out.
func takes(t *testing.T, u *Uart, w *wheel.Wheel, device int, at int64) {
	t.Helper()
	if e, ok := w.Take(at - 1); ok {
		t.Fatalf("ahead of %d: %v is due", at, e)
	}
	e, ok := w.Take(at)
	if !ok || e.Device != device || e.At != at {
		t.Fatalf("at %d: %v, %v, want device %d", at, e, ok, device)
	}
	u.Fire(e.At)
}

// state is one that a line may be in: how many bytes came and are to go, whether one was lost, and control.
type state struct {
	came, goes int
	lost       bool
	control    uint32
}

// status is what is to be read at 4.
func (s state) status() uint32 {
	sum := uint32(0)
	if s.came != 0 {
		sum++
	}
	if s.goes == 16 {
		sum += 2
	}
	if s.lost {
		sum += 4
	}
	if s.goes == 0 {
		sum += 8
	}
	return sum
}

// line is whether one in that state asks.
func (s state) line() bool {
	switch s.control {
	case 1:
		return s.came != 0
	case 2:
		return s.goes == 0
	case 3:
		return s.came != 0 || s.goes == 0
	}
	return false
}

// made has device 3's line in that state: what came are the bytes from 'a' on, what goes those from 'A' on, all written at 100.
func made(t *testing.T, w *wheel.Wheel, s state) *Uart {
	t.Helper()
	u := New(3, w)
	if s.lost {
		types(u, row(0, 17))
		gives(t, u, row(0, 16))
	}
	types(u, row('a', s.came))
	sends(t, u, row('A', s.goes), 100)
	writes(t, u, 8, s.control, 100)
	kept(t, u, s)
	return u
}

// kept asks whether it is in that state, and has put nothing out.
func kept(t *testing.T, u *Uart, s state) {
	t.Helper()
	holds(t, u, s.status(), s.control, s.line(), "")
}

// ends empties a line that made made, by which its bytes are told.
func ends(t *testing.T, u *Uart, s state) {
	t.Helper()
	gives(t, u, row('a', s.came))
	for range s.goes + 1 {
		u.Fire(100)
	}
	wrote(t, u, row('A', s.goes))
}

// eachState has a line on a wheel of its own in each state of a few counts.
func eachState(t *testing.T, do func(u *Uart, w *wheel.Wheel, s state)) {
	t.Helper()
	for _, came := range []int{0, 1, 2, 15, 16} {
		for _, goes := range []int{0, 1, 2, 15, 16} {
			for control := range uint32(4) {
				for _, lost := range []bool{false, true} {
					s := state{came, goes, lost, control}
					w := wheel.New()
					do(made(t, w, s), w, s)
				}
			}
		}
	}
}

// P12.1, P12.2: at first nothing came, nothing is to go, nothing was put out, nothing is asked for, and what is due of any device is as it was.
func TestNew(t *testing.T) {
	for device := range api.MaxEvents {
		w := wheel.New()
		u := New(device, w)
		holds(t, u, 8, 0, false, "")
		gives(t, u, "")
		dueAll(t, w)
		for d := range api.MaxEvents {
			w.Arm(d, int64(100-d))
		}
		before := w.All()
		holds(t, New(device, w), 8, 0, false, "")
		dueAll(t, w, before...)
	}
}

// R1: without a wheel there is no line.
func TestNewWithoutWheel(t *testing.T) {
	for _, device := range append(strangers(), 0, 1, 2, 3, 15) {
		if New(device, nil) != nil {
			t.Fatalf("device %d: a line", device)
		}
	}
}

// P12.1, P12.2: the chapter's run and its examples.
func TestRun(t *testing.T) {
	w := wheel.New()
	u := New(3, w)
	reads(t, u, 0, 0x100)
	writes(t, u, 0, 65, 0)
	due(t, w, 3, 8)
	u.Fire(8)
	wrote(t, u, "A")
	types(u, row('a', 16))
	has(t, u, 9)
	u.Type('q')
	has(t, u, 13)
	gives(t, u, row('a', 16))
}

// P12.1: of nothing 0x100 is read, however often, and nothing else is turned by that.
func TestReadOfNothing(t *testing.T) {
	eachState(t, func(u *Uart, w *wheel.Wheel, s state) {
		before := w.All()
		gives(t, u, row('a', s.came))
		s.came = 0
		for range 20 {
			reads(t, u, 0, 0x100)
			kept(t, u, s)
		}
		dueAll(t, w, before...)
		ends(t, u, s)
	})
}

// P12.1: each byte that came is read as it is, once; byte 0 is one too.
func TestReadOfEachByte(t *testing.T) {
	u := New(3, wheel.New())
	for v := range uint32(256) {
		u.Type(byte(v))
		has(t, u, 9)
		reads(t, u, 0, v)
		has(t, u, 8)
		reads(t, u, 0, 0x100)
		has(t, u, 8)
	}
	for _, bytes := range []string{"\x00\x00\x00", "\xff\xff", "\x00\xff\x00\xff", "\x80\x7f\x00"} {
		types(u, bytes)
		gives(t, u, bytes)
	}
}

// P12.1: of several the first one is read, and is not there any more; none of what is to go is read.
func TestReadInOrder(t *testing.T) {
	for count := range 17 {
		for _, first := range []byte{0, 'a', 240, 250} {
			u := New(3, wheel.New())
			sends(t, u, "xyz", 5)
			types(u, row(first, count))
			for i := range count {
				has(t, u, 1)
				reads(t, u, 0, uint32(first+byte(i)))
			}
			has(t, u, 0)
			gives(t, u, "")
			holds(t, u, 0, 0, false, "")
			u.Fire(13)
			wrote(t, u, "x")
		}
	}
}

// P12.1: reads and bytes that come take turns, with each count in the queue, far more often than the queue has room.
func TestReadAndTypeByTurns(t *testing.T) {
	for count := range 16 {
		u := New(3, wheel.New())
		types(u, row(0, count))
		for i := range 600 {
			u.Type(byte(i + count))
			reads(t, u, 0, uint32(byte(i)))
		}
		gives(t, u, row(byte(600%256), count))
		has(t, u, 8)
	}
}

// P12.1: each bit of the status by itself and with the others, with each control; Read at 4 and 8 takes nothing, from either queue.
func TestReadOfStatusAndControl(t *testing.T) {
	seen := map[uint32]bool{}
	eachState(t, func(u *Uart, w *wheel.Wheel, s state) {
		before := w.All()
		for range 20 {
			reads(t, u, 4, s.status())
			reads(t, u, 8, s.control)
		}
		seen[s.status()] = true
		kept(t, u, s)
		dueAll(t, w, before...)
		ends(t, u, s)
	})
	for status := range uint32(16) {
		if both := status&10 == 10; seen[status] == both {
			t.Errorf("status %#x: %v", status, seen[status])
		}
	}
}

// P12.1: the status of each count of either queue, while it fills and while it empties.
func TestStatusOfEachCount(t *testing.T) {
	w := wheel.New()
	u := New(3, w)
	for count := range 17 {
		has(t, u, state{came: count}.status())
		u.Type('x')
	}
	writes(t, u, 4, 4, 0)
	for count := 16; count > 0; count-- {
		has(t, u, state{came: count}.status())
		reads(t, u, 0, 'x')
	}
	for count := range 17 {
		has(t, u, state{goes: count}.status())
		writes(t, u, 0, 'x', 0)
	}
	for count := 16; count > 0; count-- {
		has(t, u, state{goes: count}.status())
		u.Fire(0)
	}
	has(t, u, 8)
}

// P12.1, R3: Read of what is no word is 0, false, and nothing.
func TestReadOfOthers(t *testing.T) {
	eachState(t, func(u *Uart, w *wheel.Wheel, s state) {
		before := w.All()
		for _, at := range others() {
			if v, ok := u.Read(at); v != 0 || ok {
				t.Fatalf("Read(%#x): %#x, %v", at, v, ok)
			}
		}
		kept(t, u, s)
		dueAll(t, w, before...)
		ends(t, u, s)
	})
}

// P12.1, R3: Write of what is no word is false, and nothing: no byte, no bit, and no event, nor its number.
func TestWriteOfOthers(t *testing.T) {
	eachState(t, func(u *Uart, w *wheel.Wheel, s state) {
		before := w.All()
		for _, at := range others() {
			for _, v := range []uint32{0, 1, 2, 3, 4, 'x', math.MaxUint32} {
				if u.Write(at, v, 9) {
					t.Fatalf("Write(%#x, %#x): true", at, v)
				}
			}
		}
		kept(t, u, s)
		dueAll(t, w, before...)
		w.Arm(4, 0)
		count := int64(len(before))
		if all := w.All(); all[0].Seq != count {
			t.Fatalf("%v: %d were armed, not %d", all, all[0].Seq, count)
		}
		ends(t, u, s)
	})
}

// P12.1: the lowest byte of a word alone is to go, each of 256, whatever its other bits are.
func TestWriteOfEachByte(t *testing.T) {
	w := wheel.New()
	u := New(3, w)
	out := ""
	for v := range uint32(256) {
		for _, more := range []uint32{0, 0x100, 0xff00, 0x80000000, 0xffffff00, 0x12345600} {
			writes(t, u, 0, v+more, 50)
			has(t, u, 0)
			takes(t, u, w, 3, 58)
			has(t, u, 8)
			out += string([]byte{byte(v)})
		}
	}
	wrote(t, u, out)
	dueAll(t, w)
	gives(t, u, "")
}

// P12.1: the first byte that is to go arms the device at now + 8, whatever now is and was; those behind it leave that as it is, its number too.
func TestWriteArms(t *testing.T) {
	for _, now := range moments() {
		for _, later := range moments() {
			w := wheel.New()
			u := New(3, w)
			w.Arm(5, now+8)
			want := []api.Event{{At: now + 8, Device: 5, Seq: 0}, {At: now + 8, Device: 3, Seq: 1}}
			writes(t, u, 0, 'A', now)
			dueAll(t, w, want...)
			for i := 1; i < 16; i++ {
				writes(t, u, 0, uint32('A'+i), later)
				dueAll(t, w, want...)
			}
			has(t, u, 2)
			for range 5 {
				writes(t, u, 0, 'x', later)
				dueAll(t, w, want...)
				has(t, u, 2)
			}
			w.Arm(6, now+8)
			dueAll(t, w, append(want, api.Event{At: now + 8, Device: 6, Seq: 2})...)
			for range 20 {
				u.Fire(0)
			}
			wrote(t, u, row('A', 16))
		}
	}
}

// P12.1: a byte that finds the queue full is lost: the queue and what is armed stay, and bit 2 of the status does not tell it.
func TestWriteIntoFull(t *testing.T) {
	eachState(t, func(u *Uart, w *wheel.Wheel, s state) {
		before := w.All()
		for i := range 16 - s.goes {
			writes(t, u, 0, uint32('A'+s.goes+i), 100)
		}
		if s.goes > 0 {
			dueAll(t, w, before...)
		}
		s.goes = 16
		dueAll(t, w, api.Event{At: 108, Device: 3, Seq: 0})
		for i := range 40 {
			writes(t, u, 0, uint32('z'-i), int64(200-5*i))
			kept(t, u, s)
			dueAll(t, w, api.Event{At: 108, Device: 3, Seq: 0})
		}
		takes(t, u, w, 3, 108)
		writes(t, u, 0, '!', 109)
		writes(t, u, 0, '?', 110)
		due(t, w, 3, 116)
		for i := range 16 {
			takes(t, u, w, 3, int64(116+8*i))
		}
		dueAll(t, w)
		wrote(t, u, row('A', 16)+"!")
		gives(t, u, row('a', s.came))
	})
}

// P12.1: whatever others did with the device: a byte for an empty queue arms it anew, one for any other queue does not.
func TestWriteOfWhatOthersArmed(t *testing.T) {
	for count := range 18 {
		w := wheel.New()
		u := New(3, w)
		sends(t, u, row('A', count), 100)
		w.Cancel(3)
		writes(t, u, 0, 'x', 50)
		if count == 0 {
			due(t, w, 3, 58)
		} else {
			due(t, w, 3, none)
		}
		for range 20 {
			u.Fire(1)
		}
		w.Arm(3, 40)
		writes(t, u, 0, 'y', 60)
		due(t, w, 3, 68)
	}
}

// P12.1: Write at 4 with bit 2 has none lost, and with all other bits does nothing, whether one was lost or not.
func TestWriteStatus(t *testing.T) {
	eachState(t, func(u *Uart, w *wheel.Wheel, s state) {
		before := w.All()
		for _, v := range words() {
			if v/4%2 == 0 {
				writes(t, u, 4, v, 7)
				kept(t, u, s)
			}
		}
		for _, v := range words() {
			if v/4%2 == 1 {
				writes(t, u, 4, v, 7)
				s.lost = false
				kept(t, u, s)
			}
		}
		dueAll(t, w, before...)
		ends(t, u, s)
	})
}

// P12.1: each word at 4 when one was lost, and one that is lost behind it is told again.
func TestWriteStatusOfEach(t *testing.T) {
	u := New(3, wheel.New())
	types(u, row('a', 16))
	for _, v := range words() {
		has(t, u, 9)
		u.Type('x')
		has(t, u, 13)
		writes(t, u, 4, v, 0)
		if v/4%2 == 0 {
			has(t, u, 13)
			writes(t, u, 4, 4, 0)
		}
	}
	gives(t, u, row('a', 16))
}

// P12.1: of what is written at 8 the lowest 2 bits are kept, in the place of what was there, and nothing else is turned.
func TestWriteControl(t *testing.T) {
	eachState(t, func(u *Uart, w *wheel.Wheel, s state) {
		before := w.All()
		was := s.control
		for _, v := range words() {
			for range 2 {
				writes(t, u, 8, v, 3)
				s.control = v % 4
				kept(t, u, s)
			}
			writes(t, u, 8, was, 3)
			s.control = was
			kept(t, u, s)
		}
		dueAll(t, w, before...)
		ends(t, u, s)
	})
}

// P12.2: Fire when nothing is to go puts nothing out, and arms and cancels nothing.
func TestFireOfNothing(t *testing.T) {
	for _, at := range moments() {
		w := wheel.New()
		u := New(3, w)
		types(u, "xy")
		u.Fire(at)
		u.Fire(at)
		holds(t, u, 9, 0, false, "")
		dueAll(t, w)
		w.Arm(3, 50)
		w.Arm(2, 50)
		before := w.All()
		u.Fire(at)
		holds(t, u, 9, 0, false, "")
		dueAll(t, w, before...)
		writes(t, u, 0, 'A', 30)
		due(t, w, 3, 38)
		takes(t, u, w, 3, 38)
		u.Fire(at)
		holds(t, u, 9, 0, false, "A")
		gives(t, u, "xy")
	}
}

// P12.2: each count of bytes goes out one by one in order, each armed 8 behind the other; behind the last one nothing is armed, and a byte that is written then is a first one again.
func TestFireTillAllIsOut(t *testing.T) {
	for count := 1; count <= 16; count++ {
		for _, now := range moments() {
			w := wheel.New()
			u := New(3, w)
			w.Arm(7, 1<<42)
			sends(t, u, row('A', count), now)
			for i := range count {
				has(t, u, state{goes: count - i}.status())
				wrote(t, u, row('A', i))
				takes(t, u, w, 3, now+8*int64(i+1))
			}
			holds(t, u, 8, 0, false, row('A', count))
			dueAll(t, w, api.Event{At: 1 << 42, Device: 7, Seq: 0})
			writes(t, u, 0, '!', 5)
			due(t, w, 3, 13)
			has(t, u, 0)
			takes(t, u, w, 3, 13)
			holds(t, u, 8, 0, false, row('A', count)+"!")
			due(t, w, 3, none)
		}
	}
}

// P12.2: Fire goes by its own time, not by what was armed; it may go back, and arms once a call.
func TestFireAtOtherTimes(t *testing.T) {
	list := moments()
	w := wheel.New()
	u := New(3, w)
	sends(t, u, row('A', len(list)+1), 500)
	for i, at := range list {
		u.Fire(at)
		dueAll(t, w, api.Event{At: at + 8, Device: 3, Seq: int64(i + 1)})
		wrote(t, u, row('A', i+1))
	}
	w.Cancel(3)
	w.Arm(3, 9)
	u.Fire(77)
	due(t, w, 3, 9)
	wrote(t, u, row('A', len(list)+1))
}

// P12.1, P12.2: bytes that are written while others go, with each count that is to go, far more often than the queue has room.
func TestWriteAndFireByTurns(t *testing.T) {
	for count := 1; count < 16; count++ {
		w := wheel.New()
		u := New(3, w)
		sends(t, u, row(0, count), 0)
		for i := range 600 {
			writes(t, u, 0, uint32(i+count), int64(8*i+7))
			takes(t, u, w, 3, int64(8*i+8))
			due(t, w, 3, int64(8*i+16))
		}
		wrote(t, u, row(0, 600))
	}
}

// P12.2: bytes that come are kept in order up to a full queue; past it they are lost, which is told until it is forgotten, and those ahead stay.
func TestType(t *testing.T) {
	for count := range 40 {
		w := wheel.New()
		u := New(3, w)
		w.Arm(3, 30)
		for i := range count {
			u.Type(byte('a' + i))
			has(t, u, state{came: i + 1, lost: i >= 16}.status())
		}
		kept(t, u, state{came: count, lost: count > 16})
		gives(t, u, row('a', min(count, 16)))
		kept(t, u, state{lost: count > 16})
		types(u, "xyz")
		kept(t, u, state{came: 3, lost: count > 16})
		gives(t, u, "xyz")
		writes(t, u, 4, 4, 0)
		kept(t, u, state{})
		dueAll(t, w, api.Event{At: 30, Device: 3, Seq: 0})
	}
}

// P12.2: what comes and what goes have room each for itself.
func TestQueuesApart(t *testing.T) {
	w := wheel.New()
	u := New(3, w)
	types(u, row('a', 16))
	for i := range 16 {
		has(t, u, state{came: 16, goes: i}.status())
		writes(t, u, 0, uint32('A'+i), 0)
	}
	has(t, u, 3)
	types(u, "x")
	has(t, u, 7)
	reads(t, u, 0, 'a')
	has(t, u, 7)
	u.Type('q')
	u.Fire(8)
	has(t, u, 5)
	wrote(t, u, "A")
	gives(t, u, row('b', 16))
	has(t, u, 4)
	for range 15 {
		u.Fire(8)
	}
	holds(t, u, 12, 0, false, row('A', 16))
}

// P12.2: Line behind each call, with each control.
func TestLine(t *testing.T) {
	for control := range uint32(4) {
		w := wheel.New()
		u := New(3, w)
		s := state{}
		asks := func() {
			t.Helper()
			for range 2 {
				if got := u.Line(); got != s.line() {
					t.Fatalf("Line: %v of %+v", got, s)
				}
			}
		}
		asks()
		writes(t, u, 8, control, 0)
		s.control = control
		for range 2 {
			asks()
			u.Type('a')
			s.came = 1
			asks()
			writes(t, u, 0, 'A', 0)
			s.goes = 1
			asks()
			u.Type('b')
			asks()
			reads(t, u, 0, 'a')
			asks()
			reads(t, u, 0, 'b')
			s.came = 0
			asks()
			writes(t, u, 0, 'B', 0)
			asks()
			u.Fire(8)
			asks()
			types(u, row('a', 17))
			s.came = 16
			asks()
			u.Fire(16)
			s.goes = 0
			asks()
			writes(t, u, 4, 4, 0)
			asks()
			gives(t, u, row('a', 16))
			s.came = 0
			asks()
		}
		for other := range uint32(4) {
			writes(t, u, 8, other, 0)
			s.control = other
			asks()
		}
	}
}

// P12.2: all that was put out is told, up to MaxOut bytes: past it the first ones, but the bytes go on as ever.
func TestOutOfMany(t *testing.T) {
	w := wheel.New()
	u := New(3, w)
	byteAt := func(i int) byte { return byte(i*7 + i>>8) }
	for i := range 1<<16 + 300 {
		writes(t, u, 0, uint32(byteAt(i)), int64(i))
		has(t, u, 0)
		takes(t, u, w, 3, int64(i+8))
		has(t, u, 8)
		if i%5000 == 0 || i > 1<<16-3 && i < 1<<16+3 || i > 1<<16+298 {
			outIs(t, u, min(i+1, 1<<16), byteAt)
		}
	}
	sends(t, u, row('A', 17), 0)
	has(t, u, 2)
	for i := range 16 {
		takes(t, u, w, 3, int64(8*i+8))
	}
	has(t, u, 8)
	dueAll(t, w)
	outIs(t, u, 1<<16, byteAt)
}

func outIs(t *testing.T, u *Uart, count int, byteAt func(i int) byte) {
	t.Helper()
	out := u.Out()
	if len(out) != count {
		t.Fatalf("Out: %d bytes, want %d", len(out), count)
	}
	for i, b := range out {
		if b != byteAt(i) {
			t.Fatalf("Out of %d: byte %d is %d, want %d", count, i, b, byteAt(i))
		}
	}
}

// R2: what is done to an answer of Out, its spare room too, is not seen in another one, and an answer stays as it is.
func TestOutIsNewMemory(t *testing.T) {
	u := New(3, wheel.New())
	var answers [][]byte
	for count := range 200 {
		spoilt := u.Out()
		spoilt = spoilt[:cap(spoilt)]
		for i := range spoilt {
			spoilt[i] = '!'
		}
		answers = append(answers, u.Out())
		for i := range spoilt {
			if spoilt[i] != '!' {
				t.Fatalf("of %d bytes: byte %d of an answer is %q", count, i, spoilt[i])
			}
		}
		wrote(t, u, row(0, count))
		grown := append(u.Out(), "???"...)
		writes(t, u, 0, uint32(count), 0)
		u.Fire(8)
		if string(grown[count:]) != "???" {
			t.Fatalf("of %d bytes: what was laid behind an answer is %q", count, grown[count:])
		}
		wrote(t, u, row(0, count+1))
	}
	for count, answer := range answers {
		if string(answer) != row(0, count) {
			t.Fatalf("the answer of %d bytes is %v by now", count, answer)
		}
	}
}

// P12.1, P12.2: two lines of one wheel, and other devices: neither sees the other's bytes, and each one's event is its own.
func TestTwoLines(t *testing.T) {
	w := wheel.New()
	one, other := New(3, w), New(4, w)
	w.Arm(1, 18)
	w.Arm(5, 2)
	sends(t, one, "AB", 10)
	types(one, "abc")
	writes(t, one, 8, 1, 0)
	holds(t, one, 1, 1, true, "")
	holds(t, other, 8, 0, false, "")
	gives(t, other, "")
	sends(t, other, row('0', 17), 10)
	writes(t, other, 8, 2, 0)
	types(other, row('a', 17))
	holds(t, one, 1, 1, true, "")
	holds(t, other, 7, 2, false, "")
	dueAll(t, w, api.Event{At: 2, Device: 5, Seq: 1}, api.Event{At: 18, Device: 1, Seq: 0}, api.Event{At: 18, Device: 3, Seq: 2}, api.Event{At: 18, Device: 4, Seq: 3})
	w.Cancel(5)
	w.Cancel(1)
	takes(t, one, w, 3, 18)
	takes(t, other, w, 4, 18)
	holds(t, one, 1, 1, true, "A")
	holds(t, other, 5, 2, false, "0")
	takes(t, one, w, 3, 26)
	holds(t, one, 9, 1, true, "AB")
	gives(t, one, "abc")
	writes(t, other, 4, 4, 0)
	holds(t, one, 8, 1, false, "AB")
	holds(t, other, 1, 2, false, "0")
	dueAll(t, w, api.Event{At: 26, Device: 4, Seq: 5})
	gives(t, other, row('a', 16))
	holds(t, New(3, w), 8, 0, false, "")
	dueAll(t, w, api.Event{At: 26, Device: 4, Seq: 5})
}

// P12.1, P12.2: lines of the same device on two wheels.
func TestTwoWheels(t *testing.T) {
	near, far := wheel.New(), wheel.New()
	one, other := New(3, near), New(3, far)
	sends(t, one, "AB", 5)
	due(t, near, 3, 13)
	due(t, far, 3, none)
	sends(t, other, "x", 7)
	due(t, near, 3, 13)
	due(t, far, 3, 15)
	takes(t, one, near, 3, 13)
	due(t, near, 3, 21)
	due(t, far, 3, 15)
	takes(t, other, far, 3, 15)
	due(t, near, 3, 21)
	due(t, far, 3, none)
	holds(t, one, 0, 0, false, "A")
	holds(t, other, 8, 0, false, "x")
}

// P12.1, P12.2: each device, with all others due: its own event alone comes and goes.
func TestEachDevice(t *testing.T) {
	for device := range api.MaxEvents {
		w := wheel.New()
		for d := range api.MaxEvents {
			if d != device {
				w.Arm(d, int64(90+d))
			}
		}
		before := w.All()
		u := New(device, w)
		sends(t, u, "ABC", 6)
		types(u, row('a', 20))
		writes(t, u, 8, 3, 6)
		for i := range 3 {
			takes(t, u, w, device, int64(14+8*i))
		}
		holds(t, u, 13, 3, true, "ABC")
		dueAll(t, w, before...)
	}
}

// P12.1, P12.2: of a number that no device has nothing is armed, but the bytes are bytes.
func TestStrangers(t *testing.T) {
	for _, device := range strangers() {
		w := wheel.New()
		w.Arm(3, 30)
		before := w.All()
		u := New(device, w)
		sends(t, u, row('A', 17), 0)
		types(u, row('a', 17))
		writes(t, u, 8, 1, 0)
		holds(t, u, 7, 1, true, "")
		for range 17 {
			u.Fire(8)
		}
		holds(t, u, 13, 1, true, row('A', 16))
		gives(t, u, row('a', 16))
		writes(t, u, 4, 4, 0)
		holds(t, u, 8, 1, false, row('A', 16))
		if u.Write(12, 1, 0) {
			t.Fatal("Write(12): true")
		}
		dueAll(t, w, before...)
	}
}

// R1, R6: times below 0 and beyond the bound: each call ends, and the bytes are the same as of other times.
func TestOddTimes(t *testing.T) {
	far := []int64{-1, -8, -9, -1 << 32, -1 << 41, math.MinInt64, math.MinInt64 + 1, 1 << 50, 1 << 62, math.MaxInt64 - 8, math.MaxInt64 - 7, math.MaxInt64}
	for _, now := range far {
		u := New(3, wheel.New())
		sends(t, u, row('A', 17), now)
		types(u, row('a', 17))
		writes(t, u, 8, 2, now)
		holds(t, u, 7, 2, false, "")
		writes(t, u, 4, 4, now)
		for i := range 17 {
			holds(t, u, state{came: 16, goes: max(16-i, 0)}.status(), 2, i == 16, row('A', i))
			u.Fire(now)
		}
		holds(t, u, 9, 2, true, row('A', 16))
		if u.Write(3, 1, now) {
			t.Fatal("Write(3): true")
		}
		gives(t, u, row('a', 16))
	}
}

// P12.1, P12.2: a time below 0 counts as it stands; ahead of 0 nothing can be armed, and so what was armed stays.
func TestTimesBelowZero(t *testing.T) {
	for _, c := range []struct{ now, want int64 }{{-1, 7}, {-7, 1}, {-8, 0}, {-9, none}, {-100, none}} {
		w := wheel.New()
		u := New(3, w)
		writes(t, u, 0, 'A', c.now)
		due(t, w, 3, c.want)
		writes(t, u, 0, 'B', 20)
		due(t, w, 3, c.want)
		w.Cancel(3)
		u.Fire(c.now)
		due(t, w, 3, c.want)
		wrote(t, u, "A")
		u.Fire(0)
		w.Arm(3, 40)
		writes(t, u, 0, 'C', c.now)
		if c.want == none {
			due(t, w, 3, 40)
		} else {
			due(t, w, 3, c.want)
		}
		wrote(t, u, "AB")
	}
}

// plain tells a line by texts, and does on a wheel of its own by hand what the line has to do on the other one.
type plain struct {
	device          int
	wheel           *wheel.Wheel
	came, goes, out string
	lost, in, idle  bool
}

func (p *plain) write(at, v uint32, now int64) bool {
	switch {
	case at == 0 && p.goes == "":
		p.wheel.Arm(p.device, now+8)
		p.goes = string([]byte{byte(v % 256)})
	case at == 0 && len(p.goes) < 16:
		p.goes += string([]byte{byte(v % 256)})
	case at == 4 && v/4%2 == 1:
		p.lost = false
	case at == 8:
		p.in, p.idle = v%2 == 1, v/2%2 == 1
	}
	return at == 0 || at == 4 || at == 8
}

func (p *plain) read() uint32 {
	if p.came == "" {
		return 0x100
	}
	first := p.came[0]
	p.came = p.came[1:]
	return uint32(first)
}

func (p *plain) fire(at int64) {
	if p.goes == "" {
		return
	}
	p.out += p.goes[:1]
	p.goes = p.goes[1:]
	if p.goes != "" {
		p.wheel.Arm(p.device, at+8)
	}
}

func (p *plain) typed(b byte) {
	if len(p.came) > 15 {
		p.lost = true
		return
	}
	p.came += string([]byte{b})
}

func (p *plain) state() state {
	s := state{came: len(p.came), goes: len(p.goes), lost: p.lost}
	if p.in {
		s.control++
	}
	if p.idle {
		s.control += 2
	}
	return s
}

// bench has two lines on one wheel, and their plain tellings on another one.
type bench struct {
	wheel, told *wheel.Wheel
	lines       [2]*Uart
	plains      [2]*plain
}

func newBench() *bench {
	b := &bench{wheel: wheel.New(), told: wheel.New()}
	for i := range b.lines {
		b.lines[i] = New(i+3, b.wheel)
		b.plains[i] = &plain{device: i + 3, wheel: b.told}
	}
	return b
}

func (b *bench) write(t *testing.T, which int, at, v uint32, now int64) {
	t.Helper()
	want := b.plains[which].write(at, v, now)
	if got := b.lines[which].Write(at, v, now); got != want {
		t.Fatalf("Write(%#x, %#x, %d): %v, want %v", at, v, now, got, want)
	}
}

func (b *bench) read(t *testing.T, which int) {
	t.Helper()
	reads(t, b.lines[which], 0, b.plains[which].read())
}

func (b *bench) types(which int, v byte) {
	b.plains[which].typed(v)
	b.lines[which].Type(v)
}

func (b *bench) fire(which int, at int64) {
	b.plains[which].fire(at)
	b.lines[which].Fire(at)
}

// arm has another device's event on both wheels.
func (b *bench) arm(device int, at int64) {
	b.wheel.Arm(device, at)
	b.told.Arm(device, at)
}

// take has what is due come, and the line put a byte out whose event it is.
func (b *bench) take(t *testing.T, now int64) {
	t.Helper()
	e, ok := b.wheel.Take(now)
	if want, is := b.told.Take(now); e != want || ok != is {
		t.Fatalf("Take(%d): %v, %v, want %v, %v", now, e, ok, want, is)
	}
	if ok && (e.Device == 3 || e.Device == 4) {
		b.fire(e.Device-3, e.At)
	}
}

func (b *bench) holds(t *testing.T) {
	t.Helper()
	for i, u := range b.lines {
		p := b.plains[i]
		s := p.state()
		holds(t, u, s.status(), s.control, s.line(), p.out)
	}
	if got, want := b.wheel.All(), b.told.All(); !slices.Equal(got, want) {
		t.Fatalf("%v is due, want %v", got, want)
	}
}

// P12.1, P12.2: long rows of calls of any kind on two lines of one wheel, against a plain telling.
func TestLongRows(t *testing.T) {
	for seed := range int64(12) {
		random := rand.New(rand.NewSource(seed))
		b := newBench()
		for range 4000 {
			b.step(t, random, int(seed%4))
			b.holds(t)
		}
	}
}

// step makes one call of any kind; the bias has one queue or the other fill, or times and words be any.
func (b *bench) step(t *testing.T, random *rand.Rand, bias int) {
	t.Helper()
	which, v, now := random.Intn(2), uint32(random.Intn(400)), int64(random.Intn(60))
	if bias == 3 {
		v, now = random.Uint32(), int64(random.Uint64()>>(22+random.Intn(42)))
	}
	kind := random.Intn(13)
	if bias == 1 && random.Intn(3) == 0 {
		kind = 0
	}
	if bias == 2 && random.Intn(3) == 0 {
		kind = 2
	}
	switch kind {
	case 0, 1:
		b.write(t, which, 0, v, now)
	case 2, 3:
		b.types(which, byte(v))
	case 4, 5:
		b.read(t, which)
	case 6:
		b.write(t, which, 8, v, now)
	case 7:
		b.write(t, which, 4, v, now)
	case 8:
		b.write(t, which, uint32(random.Intn(24)), v, now)
	case 9:
		b.write(t, which, random.Uint32(), v, now)
	case 10:
		b.fire(which, now)
	case 11:
		b.arm(5+random.Intn(11), now)
	default:
		b.take(t, now)
	}
}

// P12.1, P12.2: every row of four calls out of a few, from a line that is empty, from one that lacks a byte of a full one each way, and from a full one, against a plain telling.
func TestShortRows(t *testing.T) {
	const kinds, length = 11, 4
	rows := 1
	for range length {
		rows *= kinds
	}
	for _, filled := range []int{0, 15, 16} {
		for row := range rows {
			b := newBench()
			for i := range filled {
				b.types(0, byte(i))
				b.write(t, 0, 0, uint32(255-i), 2)
			}
			for call, rest := 0, row; call < length; call, rest = call+1, rest/kinds {
				b.call(t, rest%kinds, call)
			}
			b.holds(t)
			b.empty(t)
		}
	}
}

// call makes one of the calls of short rows.
func (b *bench) call(t *testing.T, kind, count int) {
	t.Helper()
	switch kind {
	case 0:
		b.write(t, 0, 0, uint32('A'+count), int64(9-count))
	case 1:
		b.types(0, byte('a'+count))
	case 2:
		b.read(t, 0)
	case 3:
		b.take(t, 100)
	case 4:
		b.fire(0, 4)
	case 5, 6, 7:
		b.write(t, 0, 8, uint32(kind-4), 9)
	case 8:
		b.write(t, 0, 4, 4, 9)
	case 9:
		b.write(t, 0, 12, 7, 9)
	default:
		b.write(t, 1, 0, 'x', 3)
	}
}

// empty reads and puts out all that is left.
func (b *bench) empty(t *testing.T) {
	t.Helper()
	for range 17 {
		b.read(t, 0)
		b.take(t, 1000)
	}
	b.holds(t)
}
