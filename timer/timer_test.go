package timer

import (
	"math"
	"math/rand"
	"slices"
	"testing"

	"pianola/api"
	"pianola/wheel"
)

// none is the answer of a wheel on which nothing is due.
const none = -1

// others are addresses at which there is no word: all others up to beyond a window, and those that would be a word's if some of their bits were lost.
func others() []uint32 {
	list := []uint32{
		1<<8 - 4, 1 << 8, 1<<8 + 4, 1<<8 + 8, 1 << 16, 1<<16 + 4, 1<<16 + 8, 0x1f000040, 0x1f000044, 0x1f000048,
		1<<31 - 1, 1 << 31, 1<<31 + 4, 1<<31 + 8, math.MaxUint32 - 11, math.MaxUint32 - 7, math.MaxUint32 - 3, math.MaxUint32 - 1, math.MaxUint32,
	}
	for at := range uint32(140) {
		if at != 0 && at != 4 && at != 8 {
			list = append(list, at)
		}
	}
	return list
}

// strangers are numbers of which no device may be armed.
func strangers() []int {
	return []int{-1, -2, -16, 16, 17, 18, 99, 255, 256, 257, 1<<16 + 1, 1<<32 + 1, math.MinInt, math.MinInt + 1, math.MaxInt}
}

// period is a word, and how long the timer waits with it.
type period struct {
	word uint32
	wait int64
}

func periods() []period {
	return []period{
		{0, 1}, {1, 1}, {2, 2}, {3, 3}, {5, 5}, {255, 255}, {256, 256}, {65536, 65536},
		{0x7fffffff, 2147483647}, {0x80000000, 2147483648}, {0x80000001, 2147483649}, {0xfffffffe, 4294967294}, {0xffffffff, 4294967295},
	}
}

// moments are times, and they go back.
func moments() []int64 {
	return []int64{0, 1, 10, 1 << 31, 1<<32 - 1, 1 << 32, 1 << 40, 1 << 41, 1<<40 - 1, 7, 0}
}

// odd are words to write.
func odd() []uint32 {
	return []uint32{0, 1, 2, 3, 4, 7, 8, 0x100, 0x10001, 0x7fffffff, 1 << 31, 0xfffffffc, 0xfffffffd, 0xfffffffe, math.MaxUint32}
}

// holds asks for what a timer's words are, twice, as asking changes nothing.
func holds(t *testing.T, x *Timer, control, period, status uint32) {
	t.Helper()
	for range 2 {
		for i, want := range []uint32{control, period, status} {
			if got, ok := x.Read(uint32(4 * i)); got != want || !ok {
				t.Fatalf("Read(%d): %#x, %v, want %#x", 4*i, got, ok, want)
			}
		}
		if got := x.Line(); got != (status == 1) {
			t.Fatalf("Line: %v of status %d", got, status)
		}
	}
}

// due asks for the time of the device, or none.
func due(t *testing.T, w *wheel.Wheel, device int, want int64) {
	t.Helper()
	got, ok := w.At(device)
	if !ok {
		got = none
	}
	if got != want {
		t.Fatalf("device %d is due at %d, want %d", device, got, want)
	}
}

func writes(t *testing.T, x *Timer, at, v uint32, now int64) {
	t.Helper()
	if !x.Write(at, v, now) {
		t.Fatalf("Write(%d, %#x, %d): false", at, v, now)
	}
}

// takes has the device's event come due, and has the timer fire.
func takes(t *testing.T, x *Timer, w *wheel.Wheel, device int, at int64) {
	t.Helper()
	if e, ok := w.Take(at - 1); ok {
		t.Fatalf("ahead of %d: %v is due", at, e)
	}
	e, ok := w.Take(at)
	if !ok || e.Device != device || e.At != at {
		t.Fatalf("at %d: %v, %v, want device %d", at, e, ok, device)
	}
	x.Fire(e.At)
}

// made has a timer with these words, of which nothing is armed.
func made(t *testing.T, w *wheel.Wheel, device int, control, period, status uint32) *Timer {
	t.Helper()
	x := New(device, w)
	if status == 1 {
		x.Fire(0)
		w.Cancel(device)
	}
	writes(t, x, 4, period, 0)
	writes(t, x, 0, control, 0)
	w.Cancel(device)
	holds(t, x, control, period, status)
	due(t, w, device, none)
	return x
}

// eachState has a timer of each control and status, with each period, nothing armed.
func eachState(t *testing.T, do func(x *Timer, w *wheel.Wheel, control uint32, p period, status uint32)) {
	t.Helper()
	for control := range uint32(4) {
		for status := range uint32(2) {
			for _, p := range periods() {
				w := wheel.New()
				do(made(t, w, 1, control, p.word, status), w, control, p, status)
			}
		}
	}
}

// P11.1: at first all words are 0, nothing is asked for, and what is due of any device is as it was.
func TestNew(t *testing.T) {
	for device := range api.MaxEvents {
		w := wheel.New()
		holds(t, New(device, w), 0, 0, 0)
		if all := w.All(); len(all) != 0 {
			t.Fatalf("device %d: %v", device, all)
		}
		for d := range api.MaxEvents {
			w.Arm(d, int64(100-d))
		}
		before := w.All()
		holds(t, New(device, w), 0, 0, 0)
		if all := w.All(); !slices.Equal(all, before) {
			t.Fatalf("device %d: %v, want %v", device, all, before)
		}
	}
}

// R1: without a wheel there is no timer.
func TestNewWithoutWheel(t *testing.T) {
	for _, device := range append(strangers(), 0, 1, 2, 3, 15) {
		if New(device, nil) != nil {
			t.Fatalf("device %d: a timer", device)
		}
	}
}

// P11.1: the chapter's run and its examples.
func TestRun(t *testing.T) {
	w := wheel.New()
	x := New(1, w)
	writes(t, x, 4, 5, 10)
	writes(t, x, 0, 1, 10)
	due(t, w, 1, 15)
	if v, ok := x.Read(12); v != 0 || ok {
		t.Errorf("Read(12): %d, %v", v, ok)
	}
	writes(t, x, 0, 0, 10)
	due(t, w, 1, none)
}

// P11.1, R3: Read of what is no word is 0, false, and nothing.
func TestReadOfOthers(t *testing.T) {
	w := wheel.New()
	for _, x := range []*Timer{New(1, w), made(t, w, 1, 3, math.MaxUint32, 1)} {
		w.Arm(1, 5)
		before := w.All()
		for _, at := range others() {
			if v, ok := x.Read(at); v != 0 || ok {
				t.Fatalf("Read(%#x): %#x, %v", at, v, ok)
			}
		}
		if all := w.All(); !slices.Equal(all, before) {
			t.Fatalf("%v, want %v", all, before)
		}
	}
	holds(t, New(1, w), 0, 0, 0)
}

// P11.1, R3: Write of what is no word is false, and nothing: no word, and no event, nor its number.
func TestWriteOfOthers(t *testing.T) {
	eachState(t, func(x *Timer, w *wheel.Wheel, control uint32, p period, status uint32) {
		w.Arm(1, 20)
		w.Arm(2, 20)
		before := w.All()
		for _, at := range others() {
			for _, v := range []uint32{0, 1, 2, 3, math.MaxUint32} {
				if x.Write(at, v, 9) {
					t.Fatalf("Write(%#x, %#x): true", at, v)
				}
			}
		}
		holds(t, x, control, p.word, status)
		if all := w.All(); !slices.Equal(all, before) {
			t.Fatalf("%v, want %v", all, before)
		}
	})
}

// P11.1: of what is written to control the lowest 2 bits alone are kept, and bit 0 alone has it run.
func TestControlBits(t *testing.T) {
	control := func(v uint32) uint32 { return v % 4 }
	list := odd()
	for bit := range 32 {
		list = append(list, 1<<bit, math.MaxUint32-1<<bit)
	}
	for was := range uint32(4) {
		for _, v := range list {
			w := wheel.New()
			x := made(t, w, 1, was, 6, 1)
			w.Arm(1, 99)
			writes(t, x, 0, v, 30)
			holds(t, x, control(v), 6, 1)
			if v%2 == 1 {
				due(t, w, 1, 36)
			} else {
				due(t, w, 1, none)
			}
		}
	}
}

// P11.1: a timer that starts is armed at now and the period, 0 as 1, whatever now is and was; its period and its status stay.
func TestStart(t *testing.T) {
	eachState(t, func(x *Timer, w *wheel.Wheel, _ uint32, p period, status uint32) {
		for _, now := range moments() {
			for _, v := range []uint32{1, 3, 0xfffffffd, 0xffffffff} {
				writes(t, x, 0, v, now)
				due(t, w, 1, now+p.wait)
				holds(t, x, v%4, p.word, status)
				writes(t, x, 0, v-1, now)
				due(t, w, 1, none)
				holds(t, x, v%4-1, p.word, status)
			}
		}
	})
}

// P11.1: each start while it runs arms it anew, once, earlier or later: the other time is gone.
func TestStartAnew(t *testing.T) {
	for _, first := range moments() {
		for _, second := range moments() {
			for _, p := range periods() {
				w := wheel.New()
				x := made(t, w, 2, 0, p.word, 0)
				writes(t, x, 0, 1, first)
				due(t, w, 2, first+p.wait)
				writes(t, x, 0, 3, second)
				want := []api.Event{{At: second + p.wait, Device: 2, Seq: 1}}
				if all := w.All(); !slices.Equal(all, want) {
					t.Fatalf("from %d, then from %d: %v, want %v", first, second, all, want)
				}
				holds(t, x, 3, p.word, 0)
				writes(t, x, 0, 1, second)
				due(t, w, 2, second+p.wait)
				takes(t, x, w, 2, second+p.wait)
				if all := w.All(); len(all) != 0 {
					t.Fatalf("all is done, but %v is due", all)
				}
			}
		}
	}
}

// P11.1: an Arm is made for each start, and for no other Write: so the events' numbers tell who came first of one time.
func TestStartsAreCounted(t *testing.T) {
	w := wheel.New()
	x := New(2, w)
	w.Arm(7, 12)
	writes(t, x, 4, 2, 0)
	writes(t, x, 0, 1, 10)
	w.Arm(8, 12)
	want := []api.Event{{At: 12, Device: 7, Seq: 0}, {At: 12, Device: 2, Seq: 1}, {At: 12, Device: 8, Seq: 2}}
	if all := w.All(); !slices.Equal(all, want) {
		t.Fatalf("%v, want %v", all, want)
	}
	writes(t, x, 4, 9, 0)
	writes(t, x, 8, 1, 0)
	writes(t, x, 0, 0, 10)
	writes(t, x, 0, 2, 10)
	writes(t, x, 4, 2, 0)
	writes(t, x, 0, 1, 10)
	w.Arm(9, 12)
	want = []api.Event{{At: 12, Device: 7, Seq: 0}, {At: 12, Device: 8, Seq: 2}, {At: 12, Device: 2, Seq: 3}, {At: 12, Device: 9, Seq: 4}}
	if all := w.All(); !slices.Equal(all, want) {
		t.Fatalf("%v, want %v", all, want)
	}
}

// P11.1: a timer that is stopped, ahead of its time or when it does not run, is cancelled; it may be stopped twice.
func TestStop(t *testing.T) {
	eachState(t, func(x *Timer, w *wheel.Wheel, _ uint32, p period, status uint32) {
		for _, v := range []uint32{0, 2, 4, 0xfffffffc, 0xfffffffe} {
			for _, now := range moments() {
				writes(t, x, 0, 1, 1000)
				due(t, w, 1, 1000+p.wait)
				for range 2 {
					writes(t, x, 0, v, now)
					due(t, w, 1, none)
					holds(t, x, v%4, p.word, status)
				}
			}
		}
		if all := w.All(); len(all) != 0 {
			t.Fatalf("%v is due", all)
		}
	})
}

// P11.1: whatever the device was armed for by others, a stop cancels.
func TestStopOfWhatOthersArmed(t *testing.T) {
	w := wheel.New()
	x := New(1, w)
	for _, v := range []uint32{0, 2} {
		w.Arm(1, 40)
		writes(t, x, 0, v, 3)
		due(t, w, 1, none)
		holds(t, x, v, 0, 0)
	}
}

// P11.1: each period is kept whole, and what is armed stays; the next start and the next Fire wait by the last one.
func TestPeriodWhileItRuns(t *testing.T) {
	for _, was := range periods() {
		for _, p := range periods() {
			w := wheel.New()
			x := made(t, w, 2, 0, was.word, 0)
			writes(t, x, 0, 3, 100)
			at := 100 + was.wait
			due(t, w, 2, at)
			writes(t, x, 4, 1<<31+7, 50)
			writes(t, x, 4, p.word, 60)
			due(t, w, 2, at)
			holds(t, x, 3, p.word, 0)
			takes(t, x, w, 2, at)
			due(t, w, 2, at+p.wait)
			holds(t, x, 3, p.word, 1)
			writes(t, x, 4, was.word, 0)
			due(t, w, 2, at+p.wait)
			writes(t, x, 0, 1, 30)
			due(t, w, 2, 30+was.wait)
			holds(t, x, 1, was.word, 1)
		}
	}
}

// P11.1: a period alone starts nothing.
func TestPeriodWhileItStands(t *testing.T) {
	for _, control := range []uint32{0, 2} {
		for _, p := range periods() {
			w := wheel.New()
			x := made(t, w, 1, control, 77, 0)
			for _, now := range moments() {
				writes(t, x, 4, p.word, now)
				due(t, w, 1, none)
				holds(t, x, control, p.word, 0)
			}
		}
	}
}

// P11.1: each bit of the period, alone and missing.
func TestPeriodBits(t *testing.T) {
	w := wheel.New()
	x := New(3, w)
	for bit := range 32 {
		for _, v := range []uint32{1 << bit, math.MaxUint32 - 1<<bit} {
			writes(t, x, 4, v, 0)
			holds(t, x, 0, v, 0)
			writes(t, x, 0, 1, 1<<40)
			due(t, w, 3, 1<<40+int64(v))
			writes(t, x, 0, 0, 0)
		}
	}
}

// P11.1: status is 0 behind a Write with bit 0, and as it was behind one without; nothing else is touched.
func TestWriteStatus(t *testing.T) {
	list := odd()
	for bit := range 32 {
		list = append(list, 1<<bit, math.MaxUint32-1<<bit)
	}
	eachState(t, func(x *Timer, w *wheel.Wheel, control uint32, p period, status uint32) {
		w.Arm(1, 500)
		before := w.All()
		for _, v := range list {
			if v%2 == 0 {
				writes(t, x, 8, v, 4)
				holds(t, x, control, p.word, status)
			}
		}
		for _, v := range list {
			writes(t, x, 8, v, 4)
			if v%2 == 1 {
				status = 0
			}
			holds(t, x, control, p.word, status)
		}
		if all := w.All(); !slices.Equal(all, before) {
			t.Fatalf("%v, want %v", all, before)
		}
	})
}

// P11.1: each odd word forgets that it fired, and each even one does not.
func TestWriteStatusOfEach(t *testing.T) {
	x := New(1, wheel.New())
	for _, v := range odd() {
		x.Fire(0)
		holds(t, x, 0, 0, 1)
		writes(t, x, 8, v, 0)
		holds(t, x, 0, 0, 1-v%2)
		x.Fire(0)
		holds(t, x, 0, 0, 1)
	}
}

// P11.1: Fire, whether it runs or not: status is 1; with again it is armed at at and the period, without it it does not run any more.
func TestFire(t *testing.T) {
	eachState(t, func(x *Timer, w *wheel.Wheel, control uint32, p period, _ uint32) {
		for _, at := range moments() {
			x.Fire(at)
			if control >= 2 {
				holds(t, x, control, p.word, 1)
				due(t, w, 1, at+p.wait)
			} else {
				holds(t, x, 0, p.word, 1)
				due(t, w, 1, none)
			}
		}
	})
}

// P11.1: Fire without again arms and cancels nothing: what is due, of any device, is what it was.
func TestFireWithoutAgain(t *testing.T) {
	for _, control := range []uint32{0, 1} {
		w := wheel.New()
		x := made(t, w, 1, control, 4, 0)
		w.Arm(1, 50)
		w.Arm(2, 50)
		before := w.All()
		x.Fire(7)
		holds(t, x, 0, 4, 1)
		if all := w.All(); !slices.Equal(all, before) {
			t.Fatalf("%v, want %v", all, before)
		}
	}
}

// P11.1: with again it comes due one period behind the other, and asks from the first time on until that is forgotten.
func TestFireAgainAndAgain(t *testing.T) {
	for _, p := range periods() {
		w := wheel.New()
		x := made(t, w, 2, 0, p.word, 0)
		writes(t, x, 0, 3, 10)
		at := int64(10)
		for i := range 20 {
			at += p.wait
			due(t, w, 2, at)
			takes(t, x, w, 2, at)
			holds(t, x, 3, p.word, 1)
			if i%3 == 0 {
				writes(t, x, 8, 1, at)
				holds(t, x, 3, p.word, 0)
			}
		}
		writes(t, x, 0, 1, at)
		takes(t, x, w, 2, at+p.wait)
		holds(t, x, 0, p.word, 1)
		due(t, w, 2, none)
	}
}

// P11.1: without again it fires once, and once more for each start.
func TestFireOnce(t *testing.T) {
	for _, p := range periods() {
		w := wheel.New()
		x := made(t, w, 1, 0, p.word, 0)
		for _, now := range moments() {
			writes(t, x, 0, 1, now)
			holds(t, x, 1, p.word, 0)
			takes(t, x, w, 1, now+p.wait)
			holds(t, x, 0, p.word, 1)
			due(t, w, 1, none)
			if e, ok := w.Take(math.MaxInt64); ok {
				t.Fatalf("%v is due", e)
			}
			writes(t, x, 8, 1, now)
			holds(t, x, 0, p.word, 0)
		}
	}
}

// P11.1: Fire goes by its own time, not by what was armed, and it may go back.
func TestFireAtOtherTimes(t *testing.T) {
	w := wheel.New()
	x := made(t, w, 1, 0, 9, 0)
	writes(t, x, 0, 3, 100)
	for _, at := range moments() {
		x.Fire(at)
		due(t, w, 1, at+9)
	}
	holds(t, x, 3, 9, 1)
}

// P11.1: two timers of one wheel, and other devices: neither sees the other's words, and each one's event is its own.
func TestTwoTimers(t *testing.T) {
	w := wheel.New()
	one, other := New(1, w), New(2, w)
	w.Arm(3, 15)
	w.Arm(5, 2)
	writes(t, one, 4, 5, 0)
	holds(t, other, 0, 0, 0)
	writes(t, other, 4, 8, 0)
	writes(t, other, 0, 3, 7)
	holds(t, one, 0, 5, 0)
	writes(t, one, 0, 1, 10)
	holds(t, other, 3, 8, 0)
	want := []api.Event{{At: 2, Device: 5, Seq: 1}, {At: 15, Device: 3, Seq: 0}, {At: 15, Device: 2, Seq: 2}, {At: 15, Device: 1, Seq: 3}}
	if all := w.All(); !slices.Equal(all, want) {
		t.Fatalf("%v, want %v", all, want)
	}
	w.Cancel(5)
	w.Cancel(3)
	takes(t, other, w, 2, 15)
	holds(t, one, 1, 5, 0)
	holds(t, other, 3, 8, 1)
	takes(t, one, w, 1, 15)
	holds(t, one, 0, 5, 1)
	w.Arm(4, 24)
	writes(t, one, 8, 1, 16)
	writes(t, one, 0, 0, 16)
	holds(t, one, 0, 5, 0)
	holds(t, other, 3, 8, 1)
	want = []api.Event{{At: 23, Device: 2, Seq: 4}, {At: 24, Device: 4, Seq: 5}}
	if all := w.All(); !slices.Equal(all, want) {
		t.Fatalf("%v, want %v", all, want)
	}
	writes(t, other, 0, 2, 16)
	due(t, w, 2, none)
	due(t, w, 4, 24)
	holds(t, New(1, w), 0, 0, 0)
}

// P11.1: timers of the same device on two wheels.
func TestTwoWheels(t *testing.T) {
	near, far := wheel.New(), wheel.New()
	one, other := New(1, near), New(1, far)
	writes(t, one, 0, 1, 5)
	due(t, near, 1, 6)
	due(t, far, 1, none)
	writes(t, other, 4, 3, 0)
	writes(t, other, 0, 3, 5)
	due(t, near, 1, 6)
	due(t, far, 1, 8)
	writes(t, one, 0, 0, 5)
	due(t, near, 1, none)
	due(t, far, 1, 8)
	takes(t, other, far, 1, 8)
	due(t, near, 1, none)
	holds(t, one, 0, 0, 0)
}

// P11.1: each device, with all others due: its own event alone comes and goes.
func TestEachDevice(t *testing.T) {
	for device := range api.MaxEvents {
		w := wheel.New()
		for d := range api.MaxEvents {
			if d != device {
				w.Arm(d, int64(20+d))
			}
		}
		before := w.All()
		x := New(device, w)
		writes(t, x, 4, 4, 0)
		writes(t, x, 0, 3, 6)
		takes(t, x, w, device, 10)
		takes(t, x, w, device, 14)
		due(t, w, device, 18)
		writes(t, x, 0, 0, 16)
		holds(t, x, 0, 4, 1)
		if all := w.All(); !slices.Equal(all, before) {
			t.Fatalf("device %d: %v, want %v", device, all, before)
		}
	}
}

// P11.1: of a number that no device has nothing is armed, but the words are words.
func TestStrangers(t *testing.T) {
	for _, device := range strangers() {
		w := wheel.New()
		w.Arm(1, 30)
		before := w.All()
		x := New(device, w)
		writes(t, x, 4, 5, 0)
		writes(t, x, 0, 3, 0)
		holds(t, x, 3, 5, 0)
		x.Fire(5)
		holds(t, x, 3, 5, 1)
		writes(t, x, 0, 1, 0)
		x.Fire(5)
		holds(t, x, 0, 5, 1)
		writes(t, x, 8, 1, 0)
		writes(t, x, 0, 0, 0)
		holds(t, x, 0, 5, 0)
		if x.Write(12, 1, 0) {
			t.Fatal("Write(12): true")
		}
		if all := w.All(); !slices.Equal(all, before) {
			t.Fatalf("device %d: %v, want %v", device, all, before)
		}
	}
}

// R1, R6: times below 0 and beyond the bound: each call ends, and the words are the same as of other times.
func TestOddTimes(t *testing.T) {
	far := []int64{-1, -5, -1 << 32, -1 << 41, math.MinInt64, math.MinInt64 + 1, 1 << 50, 1 << 62, math.MaxInt64 - 1, math.MaxInt64}
	for _, now := range far {
		for _, p := range periods() {
			w := wheel.New()
			x := made(t, w, 1, 0, p.word, 0)
			writes(t, x, 0, 3, now)
			holds(t, x, 3, p.word, 0)
			x.Fire(now)
			holds(t, x, 3, p.word, 1)
			writes(t, x, 8, 1, now)
			writes(t, x, 4, p.word, now)
			writes(t, x, 0, 1, now)
			x.Fire(now)
			holds(t, x, 0, p.word, 1)
			writes(t, x, 0, 2, now)
			holds(t, x, 2, p.word, 1)
			due(t, w, 1, none)
			if x.Write(3, 1, now) {
				t.Fatal("Write(3): true")
			}
		}
	}
}

// P11.1: a now below 0 counts as it stands; ahead of 0 nothing can be armed, and so what was armed stays.
func TestTimesBelowZero(t *testing.T) {
	w := wheel.New()
	x := made(t, w, 1, 0, 5, 0)
	for _, c := range []struct{ now, fresh, anew int64 }{{-1, 4, 4}, {-4, 1, 1}, {-5, 0, 0}, {-6, none, 25}, {-100, none, 25}} {
		writes(t, x, 0, 0, 0)
		writes(t, x, 0, 1, c.now)
		due(t, w, 1, c.fresh)
		writes(t, x, 0, 1, 20)
		due(t, w, 1, 25)
		writes(t, x, 0, 1, c.now)
		due(t, w, 1, c.anew)
		holds(t, x, 1, 5, 0)
	}
}

// plain tells a timer bit by bit, and does on a wheel of its own by hand what the timer has to do on the other one.
type plain struct {
	device             int
	wheel              *wheel.Wheel
	runs, again, fired bool
	period             uint32
}

// arm counts the period as it is, but for 0.
func (p *plain) arm(from int64) {
	if p.period == 0 {
		p.wheel.Arm(p.device, from+1)
		return
	}
	p.wheel.Arm(p.device, from+int64(p.period))
}

func (p *plain) write(at, v uint32, now int64) bool {
	odd := v%2 == 1
	if at == 0 {
		p.runs, p.again = odd, v/2%2 == 1
		if p.runs {
			p.arm(now)
		} else {
			p.wheel.Cancel(p.device)
		}
	}
	if at == 4 {
		p.period = v
	}
	if at == 8 && odd {
		p.fired = false
	}
	return at == 0 || at == 4 || at == 8
}

func (p *plain) fire(at int64) {
	p.fired = true
	if p.again {
		p.arm(at)
	}
	if !p.again {
		p.runs = false
	}
}

// control has 1 for runs, and 2 for again.
func (p *plain) control() uint32 {
	sum := uint32(0)
	if p.runs {
		sum++
	}
	if p.again {
		sum += 2
	}
	return sum
}

func (p *plain) status() uint32 {
	if p.fired {
		return 1
	}
	return 0
}

// bench has two timers on one wheel, and their plain tellings on another one.
type bench struct {
	wheel, told *wheel.Wheel
	timers      [2]*Timer
	plains      [2]*plain
}

func newBench() *bench {
	b := &bench{wheel: wheel.New(), told: wheel.New()}
	for i := range b.timers {
		b.timers[i] = New(i+1, b.wheel)
		b.plains[i] = &plain{device: i + 1, wheel: b.told}
	}
	return b
}

func (b *bench) write(t *testing.T, which int, at, v uint32, now int64) {
	t.Helper()
	want := b.plains[which].write(at, v, now)
	if got := b.timers[which].Write(at, v, now); got != want {
		t.Fatalf("Write(%#x, %#x, %d): %v, want %v", at, v, now, got, want)
	}
}

func (b *bench) fire(which int, at int64) {
	b.plains[which].fire(at)
	b.timers[which].Fire(at)
}

// arm has another device's event on both wheels.
func (b *bench) arm(device int, at int64) {
	b.wheel.Arm(device, at)
	b.told.Arm(device, at)
}

// take has what is due come, and the timer fire whose event it is.
func (b *bench) take(t *testing.T, now int64) {
	t.Helper()
	e, ok := b.wheel.Take(now)
	if want, is := b.told.Take(now); e != want || ok != is {
		t.Fatalf("Take(%d): %v, %v, want %v, %v", now, e, ok, want, is)
	}
	if ok && (e.Device == 1 || e.Device == 2) {
		b.fire(e.Device-1, e.At)
	}
}

func (b *bench) holds(t *testing.T) {
	t.Helper()
	for i, x := range b.timers {
		p := b.plains[i]
		holds(t, x, p.control(), p.period, p.status())
	}
	if got, want := b.wheel.All(), b.told.All(); !slices.Equal(got, want) {
		t.Fatalf("%v, want %v", got, want)
	}
}

// P11.1: long rows of calls of any kind on two timers of one wheel, against a plain telling.
func TestLongRows(t *testing.T) {
	for seed := range int64(12) {
		random := rand.New(rand.NewSource(seed))
		b := newBench()
		for range 5000 {
			b.step(t, random, seed%3 == 2)
			b.holds(t)
		}
	}
}

// step makes one call of any kind, with words and times that are small or, if wide, any.
func (b *bench) step(t *testing.T, random *rand.Rand, wide bool) {
	t.Helper()
	which, v, now := random.Intn(2), uint32(random.Intn(6)), int64(random.Intn(40))
	if wide {
		v, now = random.Uint32()>>random.Intn(32), int64(random.Uint64()>>(22+random.Intn(42)))
	}
	switch random.Intn(10) {
	case 0, 1, 2:
		b.write(t, which, 0, v, now)
	case 3:
		b.write(t, which, 4, v, now)
	case 4:
		b.write(t, which, 8, v, now)
	case 5:
		b.write(t, which, uint32(random.Intn(24)), v, now)
	case 6:
		b.write(t, which, random.Uint32(), v, now)
	case 7:
		b.fire(which, now)
	case 8:
		b.arm(3+random.Intn(13), now)
	default:
		b.take(t, now)
	}
}

// P11.1: every row of four calls out of a few, on two timers, against a plain telling.
func TestShortRows(t *testing.T) {
	const kinds, length = 14, 4
	rows := 1
	for range length {
		rows *= kinds
	}
	for row := range rows {
		b := newBench()
		for call, rest := 0, row; call < length; call, rest = call+1, rest/kinds {
			switch kind := rest % kinds; kind {
			case 0, 1, 2, 3:
				b.write(t, 0, 0, uint32(kind), 3)
			case 4, 5:
				b.write(t, 0, 0, 3, int64(2*kind-8))
			case 6, 7, 8:
				b.write(t, 0, 4, uint32(kind-6), 9)
			case 9:
				b.write(t, 0, 8, 1, 9)
			case 10:
				b.take(t, 100)
			case 11:
				b.fire(0, 1)
			case 12:
				b.write(t, 1, 0, 3, 3)
			default:
				b.write(t, 1, 4, 2, 3)
			}
			b.holds(t)
		}
	}
}
