package wheel

import (
	"math"
	"math/rand"
	"slices"
	"testing"

	"pianola/api"
)

const (
	first = math.MinInt64
	last  = math.MaxInt64
)

// strangers are numbers that no device has: those just beside, the least, the greatest, and such as would be a device's if some of their bits were lost.
func strangers() []int {
	return []int{
		-1, -2, -15, -16, -17, -99, math.MinInt, math.MinInt + 1, math.MinInt + 3, math.MinInt32, math.MinInt16,
		16, 17, 18, 31, 32, 99, 255, 256, 259, 1 << 16, 1<<32 + 3, 1 << 32, math.MaxInt, math.MaxInt - 1, math.MaxInt32,
	}
}

// times are such as may be armed, rising.
func times() []int64 {
	return []int64{0, 1, 2, 5, 255, 256, math.MaxInt32, 1 << 31, 1 << 32, 1<<32 + 1, 1 << 40, 1 << 41, 1 << 62, last - 1, last}
}

// early are times that may not be armed.
func early() []int64 {
	return []int64{-1, -2, -5, -256, math.MinInt32, -1 << 32, -1<<32 + 5, -1 << 62, first + 1, first + 5, first}
}

// plain tells by device what is due, and looks at all devices for each answer.
type plain struct {
	armed   [16]bool
	at, seq [16]int64
	count   int64
}

func (p *plain) is(device int) bool {
	return device >= 0 && device < 16 && p.armed[device]
}

func (p *plain) arm(device int, at int64) bool {
	if device < 0 || device > 15 || at < 0 {
		return false
	}
	p.armed[device], p.at[device], p.seq[device] = true, at, p.count
	p.count++
	return true
}

func (p *plain) cancel(device int) bool {
	was := p.is(device)
	if was {
		p.armed[device] = false
	}
	return was
}

// ahead tells whether one armed device comes ahead of another one.
func (p *plain) ahead(one, other int) bool {
	return p.at[one] < p.at[other] || p.at[one] == p.at[other] && p.seq[one] < p.seq[other]
}

// all has each event at the place that is the count of those ahead of it.
func (p *plain) all() []api.Event {
	var places [16]api.Event
	count := 0
	for d := range 16 {
		if !p.armed[d] {
			continue
		}
		count++
		place := 0
		for o := range 16 {
			if p.armed[o] && p.ahead(o, d) {
				place++
			}
		}
		places[place] = api.Event{At: p.at[d], Device: d, Seq: p.seq[d]}
	}
	return append([]api.Event(nil), places[:count]...)
}

func (p *plain) take(now int64) (api.Event, bool) {
	all := p.all()
	if len(all) == 0 || now < all[0].At {
		return api.Event{}, false
	}
	p.armed[all[0].Device] = false
	return all[0], true
}

// holds asks for everything that can be asked of a wheel, twice, as asking changes nothing.
func holds(t *testing.T, w *Wheel, want ...api.Event) {
	t.Helper()
	for range 2 {
		if got := w.All(); !slices.Equal(got, want) {
			t.Fatalf("All: %v, want %v", got, want)
		}
		next, ok := w.Next()
		if len(want) == 0 && (next != 0 || ok) || len(want) > 0 && (next != want[0].At || !ok) {
			t.Fatalf("Next: %d, %v of %v", next, ok, want)
		}
		for d := range 16 {
			dueAt(t, w, d, want)
		}
		for _, d := range strangers() {
			dueAt(t, w, d, want)
		}
	}
}

func dueAt(t *testing.T, w *Wheel, device int, all []api.Event) {
	t.Helper()
	at, is := int64(0), false
	for _, e := range all {
		if e.Device == device {
			at, is = e.At, true
		}
	}
	if gotAt, got := w.At(device); gotAt != at || got != is {
		t.Fatalf("At(%d): %d, %v, want %d, %v", device, gotAt, got, at, is)
	}
}

func arms(t *testing.T, w *Wheel, device int, at int64, want bool) {
	t.Helper()
	if got := w.Arm(device, at); got != want {
		t.Fatalf("Arm(%d, %d): %v, want %v", device, at, got, want)
	}
}

func cancels(t *testing.T, w *Wheel, device int, want bool) {
	t.Helper()
	if got := w.Cancel(device); got != want {
		t.Fatalf("Cancel(%d): %v, want %v", device, got, want)
	}
}

func takes(t *testing.T, w *Wheel, now int64, want api.Event) {
	t.Helper()
	if got, ok := w.Take(now); got != want || !ok {
		t.Fatalf("Take(%d): %v, %v, want %v", now, got, ok, want)
	}
}

func takesNone(t *testing.T, w *Wheel, now int64) {
	t.Helper()
	if got, ok := w.Take(now); got != (api.Event{}) || ok {
		t.Fatalf("Take(%d): %v, %v, want none", now, got, ok)
	}
}

// P9.1: of a new wheel nothing is due, whatever is asked.
func TestNew(t *testing.T) {
	w := New()
	holds(t, w)
	for _, now := range append(early(), times()...) {
		takesNone(t, w, now)
	}
	for d := range 16 {
		cancels(t, w, d, false)
	}
	for _, d := range strangers() {
		cancels(t, w, d, false)
	}
	holds(t, w)
}

// P9.1: the chapter's run and its examples.
func TestRun(t *testing.T) {
	w := New()
	arms(t, w, 1, 5, true)
	arms(t, w, 2, 5, true)
	arms(t, w, 99, 5, false)
	takesNone(t, w, 4)
	takes(t, w, 5, api.Event{At: 5, Device: 1, Seq: 0})
	holds(t, w, api.Event{At: 5, Device: 2, Seq: 1})
}

// P9.1: each device from 0 to MaxEvents - 1, alone, at times from 0 to the greatest.
func TestArmEachDevice(t *testing.T) {
	for d := range api.MaxEvents {
		for _, at := range times() {
			w := New()
			arms(t, w, d, at, true)
			holds(t, w, api.Event{At: at, Device: d, Seq: 0})
			if at > 0 {
				takesNone(t, w, at-1)
			}
			holds(t, w, api.Event{At: at, Device: d, Seq: 0})
			takes(t, w, at, api.Event{At: at, Device: d, Seq: 0})
			holds(t, w)
		}
	}
}

// P9.1: Arm of what is no device, or ahead of 0, is false and nothing: no Seq, no other event, no device's own that was armed ahead of it.
func TestArmRefused(t *testing.T) {
	fill := func(w *Wheel) {
		arms(t, w, 3, 7, true)
		arms(t, w, 0, 7, true)
		arms(t, w, 15, 2, true)
	}
	refuse := func(w *Wheel) {
		for _, d := range strangers() {
			for _, at := range append(early(), times()...) {
				arms(t, w, d, at, false)
			}
		}
		for d := range 16 {
			for _, at := range early() {
				arms(t, w, d, at, false)
			}
		}
	}
	w := New()
	refuse(w)
	holds(t, w)
	fill(w)
	want := []api.Event{{At: 2, Device: 15, Seq: 2}, {At: 7, Device: 3, Seq: 0}, {At: 7, Device: 0, Seq: 1}}
	holds(t, w, want...)
	refuse(w)
	holds(t, w, want...)
	arms(t, w, 8, 7, true)
	holds(t, w, append(want, api.Event{At: 7, Device: 8, Seq: 3})...)
}

// P9.1: a device that is armed anew is due at the last time alone, with the number of that Arm.
func TestArmAnew(t *testing.T) {
	for d := range 16 {
		other := (d + 5) % 16
		for _, c := range []struct {
			at    int64
			ahead bool
		}{{0, true}, {9, true}, {10, false}, {11, false}, {last, false}} {
			w := New()
			arms(t, w, d, 10, true)
			arms(t, w, other, 10, true)
			holds(t, w, api.Event{At: 10, Device: d, Seq: 0}, api.Event{At: 10, Device: other, Seq: 1})
			arms(t, w, d, c.at, true)
			anew, stays := api.Event{At: c.at, Device: d, Seq: 2}, api.Event{At: 10, Device: other, Seq: 1}
			want := []api.Event{stays, anew}
			if c.ahead {
				want = []api.Event{anew, stays}
			}
			holds(t, w, want...)
			takes(t, w, last, want[0])
			takes(t, w, last, want[1])
			takesNone(t, w, last)
			holds(t, w)
		}
	}
}

// P9.1: one device, armed again and again: it is one event, and each Arm has its number.
func TestArmAgainAndAgain(t *testing.T) {
	w := New()
	for i := range int64(70000) {
		at := (i * 7919) % 101
		arms(t, w, 6, at, true)
		if got := w.All(); len(got) != 1 || got[0] != (api.Event{At: at, Device: 6, Seq: i}) {
			t.Fatalf("behind Arm %d: %v", i, got)
		}
	}
	takes(t, w, last, api.Event{At: (69999 * 7919) % 101, Device: 6, Seq: 69999})
	holds(t, w)
}

// P9.1: Cancel of one that is armed, at each place, once and twice, and of one that never was.
func TestCancel(t *testing.T) {
	order := []int{4, 9, 0, 15, 2}
	for gone, d := range order {
		w := New()
		var want []api.Event
		for i, o := range order {
			arms(t, w, o, int64(3+i/2), true)
			if i != gone {
				want = append(want, api.Event{At: int64(3 + i/2), Device: o, Seq: int64(i)})
			}
		}
		cancels(t, w, d, true)
		holds(t, w, want...)
		cancels(t, w, d, false)
		cancels(t, w, 7, false)
		for _, s := range strangers() {
			cancels(t, w, s, false)
		}
		holds(t, w, want...)
		arms(t, w, d, 3, true)
		cancels(t, w, d, true)
		holds(t, w, want...)
		for _, e := range want {
			takes(t, w, last, e)
			cancels(t, w, e.Device, false)
		}
		holds(t, w)
	}
}

// P9.1: Cancel gives no number back, and a device that was cancelled or taken may be armed again.
func TestArmAgainBehindCancelAndTake(t *testing.T) {
	w := New()
	arms(t, w, 5, 8, true)
	cancels(t, w, 5, true)
	arms(t, w, 5, 8, true)
	holds(t, w, api.Event{At: 8, Device: 5, Seq: 1})
	takes(t, w, 8, api.Event{At: 8, Device: 5, Seq: 1})
	arms(t, w, 5, 8, true)
	arms(t, w, 4, 8, true)
	holds(t, w, api.Event{At: 8, Device: 5, Seq: 2}, api.Event{At: 8, Device: 4, Seq: 3})
	takes(t, w, 8, api.Event{At: 8, Device: 5, Seq: 2})
	arms(t, w, 5, 8, true)
	holds(t, w, api.Event{At: 8, Device: 4, Seq: 3}, api.Event{At: 8, Device: 5, Seq: 4})
	cancels(t, w, 4, true)
	takes(t, w, 9, api.Event{At: 8, Device: 5, Seq: 4})
	takesNone(t, w, 9)
	holds(t, w)
}

// P9.1: the time of what was due is nothing to an Arm behind it: it may be earlier than all that was taken.
func TestArmBehindNow(t *testing.T) {
	w := New()
	arms(t, w, 1, 1000, true)
	takes(t, w, 5000, api.Event{At: 1000, Device: 1, Seq: 0})
	arms(t, w, 2, 0, true)
	arms(t, w, 1, 3, true)
	takesNone(t, w, -1)
	takes(t, w, 0, api.Event{At: 0, Device: 2, Seq: 1})
	takesNone(t, w, 2)
	takes(t, w, 3, api.Event{At: 3, Device: 1, Seq: 2})
}

// P9.1: Take ahead of, at and behind its time, with now that goes back, to the least and the greatest.
func TestTakeTimes(t *testing.T) {
	for _, at := range times() {
		for _, now := range append(early(), times()...) {
			w := New()
			arms(t, w, 11, at, true)
			e := api.Event{At: at, Device: 11, Seq: 0}
			if now < at {
				takesNone(t, w, now)
				takesNone(t, w, first)
				takesNone(t, w, now)
				holds(t, w, e)
				takes(t, w, at, e)
			} else {
				takesNone(t, w, first)
				takesNone(t, w, -1)
				takes(t, w, now, e)
			}
			takesNone(t, w, last)
			takesNone(t, w, first)
			holds(t, w)
		}
	}
}

// P9.1: of one At the least Seq, whatever the devices' numbers are, and of others none.
func TestTakeSameAt(t *testing.T) {
	for turn := range 16 {
		for _, step := range []int{1, 3, 5, 7, 9, 11, 13, 15} {
			w := New()
			var want []api.Event
			for i := range 16 {
				d := (turn + i*step) % 16
				arms(t, w, d, 40, true)
				want = append(want, api.Event{At: 40, Device: d, Seq: int64(i)})
			}
			holds(t, w, want...)
			for i, e := range want {
				takesNone(t, w, 39)
				takes(t, w, 40, e)
				holds(t, w, want[i+1:]...)
			}
			takesNone(t, w, 40)
		}
	}
}

// P9.1: the least At ahead of the least Seq, of all devices, armed with their times rising, falling and mixed.
func TestTakeByAt(t *testing.T) {
	for step := 1; step < 17; step++ {
		w := New()
		want := make([]api.Event, 16)
		for d := range 16 {
			// 17 is a prime, so no two of these are the same.
			at := int64(10 * ((d + 1) * step % 17))
			arms(t, w, d, at, true)
			want[d] = api.Event{At: at, Device: d, Seq: int64(d)}
		}
		slices.SortStableFunc(want, func(a, b api.Event) int { return int(a.At - b.At) })
		holds(t, w, want...)
		for i, e := range want {
			takesNone(t, w, e.At-1)
			takes(t, w, e.At, e)
			holds(t, w, want[i+1:]...)
		}
	}
}

// P9.1: times as far from each other as they may be keep their order.
func TestFarTimes(t *testing.T) {
	w := New()
	arms(t, w, 0, last, true)
	arms(t, w, 1, 0, true)
	arms(t, w, 2, 1<<62, true)
	arms(t, w, 3, last-1, true)
	arms(t, w, 4, 1<<32, true)
	arms(t, w, 5, 1, true)
	arms(t, w, 6, last, true)
	want := []api.Event{
		{At: 0, Device: 1, Seq: 1}, {At: 1, Device: 5, Seq: 5}, {At: 1 << 32, Device: 4, Seq: 4}, {At: 1 << 62, Device: 2, Seq: 2},
		{At: last - 1, Device: 3, Seq: 3}, {At: last, Device: 0, Seq: 0}, {At: last, Device: 6, Seq: 6},
	}
	holds(t, w, want...)
	for i, e := range want {
		takesNone(t, w, first)
		takes(t, w, last, e)
		holds(t, w, want[i+1:]...)
	}
}

// P9.1, R2: an answer of All that is changed, or appended to, is nothing to the wheel, nor to another answer; what the wheel does later is nothing to the answer.
func TestAllIsNew(t *testing.T) {
	odd := api.Event{At: 77, Device: 12, Seq: 99}
	for count := range 17 {
		w := New()
		var want []api.Event
		for d := range 16 {
			arms(t, w, d, 50, true)
			want = append(want, api.Event{At: 50, Device: d, Seq: int64(d)})
		}
		// The wheel has had more events than it has now: it may have room that an answer could share.
		for d := count; d < 16; d++ {
			cancels(t, w, d, true)
		}
		want = want[:count]
		one, other := w.All(), w.All()
		spoil(one, odd)
		holds(t, w, want...)
		if !slices.Equal(other, want) {
			t.Fatalf("another answer: %v, want %v", other, want)
		}
		arms(t, w, 15, 1, true)
		cancels(t, w, 0, count > 0)
		w.Take(last)
		arms(t, w, 1, 0, true)
		if !slices.Equal(other, want) {
			t.Fatalf("an answer, later: %v, want %v", other, want)
		}
	}
}

// spoil writes all over a list, and over its spare room.
func spoil(list []api.Event, with api.Event) {
	whole := list[:cap(list)]
	for i := range whole {
		whole[i] = with
	}
	_ = append(list, with)
}

// P9.1, R2: All's spare room is none of the wheel's, where events have gone and come.
func TestAllSpareRoom(t *testing.T) {
	w := New()
	for d := range 16 {
		arms(t, w, d, int64(d), true)
	}
	for range 16 {
		spoil(w.All(), api.Event{At: 3, Device: 3, Seq: 3})
		w.Take(last)
	}
	spoil(w.All(), api.Event{At: 3, Device: 3, Seq: 3})
	holds(t, w)
	arms(t, w, 9, 4, true)
	spoil(w.All(), api.Event{At: 3, Device: 3, Seq: 3})
	arms(t, w, 8, 4, true)
	holds(t, w, api.Event{At: 4, Device: 9, Seq: 16}, api.Event{At: 4, Device: 8, Seq: 17})
}

// P9.1: of two wheels neither sees the other.
func TestTwoWheels(t *testing.T) {
	one, other := New(), New()
	arms(t, one, 1, 5, true)
	holds(t, other)
	arms(t, other, 1, 6, true)
	arms(t, other, 2, 4, true)
	holds(t, one, api.Event{At: 5, Device: 1, Seq: 0})
	cancels(t, one, 2, false)
	takes(t, one, 9, api.Event{At: 5, Device: 1, Seq: 0})
	holds(t, other, api.Event{At: 4, Device: 2, Seq: 1}, api.Event{At: 6, Device: 1, Seq: 0})
	arms(t, one, 3, 1, true)
	holds(t, one, api.Event{At: 1, Device: 3, Seq: 1})
	cancels(t, other, 3, false)
	takes(t, other, 9, api.Event{At: 4, Device: 2, Seq: 1})
	holds(t, one, api.Event{At: 1, Device: 3, Seq: 1})
	holds(t, New())
}

// P9.1: long rows of calls, on times close together and on all there are, against a plain telling.
func TestLongRows(t *testing.T) {
	for seed := range int64(12) {
		random := rand.New(rand.NewSource(seed))
		w, p := New(), &plain{}
		for range 4000 {
			step(t, random, w, p, seed%3 == 2)
			if got, want := w.All(), p.all(); !slices.Equal(got, want) {
				t.Fatalf("All: %v, want %v", got, want)
			}
		}
		holds(t, w, p.all()...)
	}
}

// step makes one call of any kind on both.
func step(t *testing.T, random *rand.Rand, w *Wheel, p *plain, wide bool) {
	t.Helper()
	device, at := random.Intn(20)-2, int64(random.Intn(14)-2)
	if wide {
		at = int64(random.Uint64()) >> random.Intn(64)
	}
	switch random.Intn(8) {
	case 0:
		cancels(t, w, device, p.cancel(device))
	case 1, 2:
		e, ok := p.take(at)
		if ok {
			takes(t, w, at, e)
		} else {
			takesNone(t, w, at)
		}
	case 3:
		holds(t, w, p.all()...)
	default:
		arms(t, w, device, at, p.arm(device, at))
	}
}

// P9.1: every row of five calls out of a few, on three devices, against a plain telling.
func TestShortRows(t *testing.T) {
	const kinds, length = 10, 5
	rows := 1
	for range length {
		rows *= kinds
	}
	for row := range rows {
		w, p := New(), &plain{}
		for call, rest := 0, row; call < length; call, rest = call+1, rest/kinds {
			switch kind := rest % kinds; kind {
			case 0, 1, 2, 3, 4, 5:
				device, at := kind%3*7, int64(kind/3)
				arms(t, w, device, at, p.arm(device, at))
			case 6, 7:
				cancels(t, w, (kind-6)*7, p.cancel((kind-6)*7))
			default:
				got, ok := w.Take(int64(kind - 8))
				if want, is := p.take(int64(kind - 8)); got != want || ok != is {
					t.Fatalf("row %d: Take: %v, %v, want %v, %v", row, got, ok, want, is)
				}
			}
		}
		if got, want := w.All(), p.all(); !slices.Equal(got, want) {
			t.Fatalf("row %d: All: %v, want %v", row, got, want)
		}
	}
}
