package lines

import (
	"math"
	"math/rand"
	"testing"
)

// strangers are numbers of which no device has a line: those just beside, the least, the greatest, and such as would be a device's if some of their bits were lost.
func strangers() []int {
	return []int{
		0, -1, -2, -3, -5, -6, -27, -29, -31, -32, -61, -63, -64, math.MinInt, math.MinInt + 1, math.MinInt + 3, math.MinInt32, math.MinInt32 + 1,
		6, 7, 8, 9, 15, 16, 17, 31, 32, 33, 34, 37, 38, 63, 64, 65, 67, 127, 128, 255, 256, 257, 259, 1<<16 + 1, 1<<31 + 3, 1 << 32, 1<<32 + 1, 1<<32 + 5, math.MaxInt32, math.MaxInt - 1, math.MaxInt,
	}
}

// others are addresses at which there is no word: all others up to beyond a window, and those that would be a word's if some of their bits were lost.
func others() []uint32 {
	list := []uint32{
		1<<8 - 4, 1 << 8, 1<<8 + 4, 1 << 16, 1<<16 + 4, 1<<16 + 8, 1<<16 + 12, 0x1f000000, 0x1f000004,
		1<<31 - 1, 1 << 31, 1<<31 + 4, 1<<31 + 8, 1<<31 + 12, math.MaxUint32 - 11, math.MaxUint32 - 7, math.MaxUint32 - 3, math.MaxUint32 - 1, math.MaxUint32,
	}
	for at := range uint32(140) {
		if at != 0 && at != 4 && at != 8 && at != 12 {
			list = append(list, at)
		}
	}
	return list
}

// moment is a time, and its halves.
type moment struct {
	now       int64
	low, high uint32
}

func moments() []moment {
	return []moment{
		{0, 0, 0}, {1, 1, 0}, {2, 2, 0}, {0x12345678, 0x12345678, 0},
		{1<<31 - 1, 0x7fffffff, 0}, {1 << 31, 0x80000000, 0}, {1<<31 + 1, 0x80000001, 0},
		{1<<32 - 1, 0xffffffff, 0}, {1 << 32, 0, 1}, {1<<32 + 1, 1, 1}, {1<<33 - 1, 0xffffffff, 1},
		{1 << 40, 0, 0x100}, {1 << 41, 0, 0x200}, {0x0102030405060708, 0x05060708, 0x01020304}, {0x7edcba9889abcdef, 0x89abcdef, 0x7edcba98},
		{1 << 62, 0, 0x40000000}, {math.MaxInt64 - 1, 0xfffffffe, 0x7fffffff}, {math.MaxInt64, 0xffffffff, 0x7fffffff},
		{-1, 0xffffffff, 0xffffffff}, {-2, 0xfffffffe, 0xffffffff}, {-1 << 31, 0x80000000, 0xffffffff}, {-1<<31 - 1, 0x7fffffff, 0xffffffff},
		{-1 << 32, 0, 0xffffffff}, {-1<<32 - 1, 0xffffffff, 0xfffffffe}, {-1<<32 + 1, 1, 0xffffffff},
		{math.MinInt64, 0, 0x80000000}, {math.MinInt64 + 1, 1, 0x80000000}, {math.MinInt64 + 1<<32, 0, 0x80000001},
	}
}

// plain tells by device, without bits.
type plain struct {
	up, enabled [6]bool
}

func (p *plain) set(device int, up bool) {
	if 1 <= device && device <= 5 {
		p.up[device] = up
	}
}

func (p *plain) write(at, v uint32) bool {
	if at == 4 {
		v /= 2
		for d := 1; d <= 5; d++ {
			p.enabled[d] = v%2 == 1
			v /= 2
		}
	}
	return at < 16 && at%4 == 0
}

func (p *plain) raised() bool {
	for d := range p.up {
		if p.up[d] && p.enabled[d] {
			return true
		}
	}
	return false
}

// number has 2 to the device's number for each one that is told.
func number(told [6]bool) uint32 {
	sum, value := uint32(0), uint32(1)
	for _, is := range told {
		if is {
			sum += value
		}
		value *= 2
	}
	return sum
}

// devices are those whose bits are in v, for v of bits 1 to 5 alone.
func devices(v uint32) [6]bool {
	var told [6]bool
	for d := range told {
		told[d] = v%2 == 1
		v /= 2
	}
	return told
}

// reads asks for one word.
func reads(t *testing.T, l *Lines, at uint32, now int64, want uint32, is bool) {
	t.Helper()
	if got, ok := l.Read(at, now); got != want || ok != is {
		t.Fatalf("Read(%#x, %d): %#x, %v, want %#x, %v", at, now, got, ok, want, is)
	}
}

func writes(t *testing.T, l *Lines, at, v uint32, want bool) {
	t.Helper()
	if got := l.Write(at, v); got != want {
		t.Fatalf("Write(%#x, %#x): %v, want %v", at, v, got, want)
	}
}

// holds asks for what is kept, twice, as asking changes nothing.
func holds(t *testing.T, l *Lines, up, enabled uint32, raised bool) {
	t.Helper()
	for _, now := range []int64{0, -1} {
		reads(t, l, 0, now, up, true)
		reads(t, l, 4, now, enabled, true)
		if got := l.Raised(); got != raised {
			t.Fatalf("Raised: %v of up %#x, enabled %#x", got, up, enabled)
		}
	}
}

// holdsPlain asks for everything that can be asked for at a time.
func holdsPlain(t *testing.T, l *Lines, p *plain) {
	t.Helper()
	holds(t, l, number(p.up), number(p.enabled), p.raised())
}

// made has those up and those enabled whose bits are in up and enabled.
func made(t *testing.T, up, enabled uint32) *Lines {
	t.Helper()
	l := New()
	for d, is := range devices(up) {
		l.Set(d, is)
	}
	writes(t, l, 4, enabled, true)
	holds(t, l, up, enabled, up&enabled != 0)
	return l
}

// each calls do with all there may be of bits 1 to 5.
func each(do func(v uint32)) {
	for v := uint32(0); v < 64; v += 2 {
		do(v)
	}
}

// P10.1: at first none is up, none enabled, and so none asks.
func TestNew(t *testing.T) {
	holds(t, New(), 0, 0, false)
	for _, m := range moments() {
		reads(t, New(), 8, m.now, m.low, true)
		reads(t, New(), 12, m.now, m.high, true)
	}
	for _, at := range others() {
		reads(t, New(), at, 0, 0, false)
	}
}

// P10.1: the chapter's run and its examples.
func TestRun(t *testing.T) {
	l := New()
	if l.Raised() {
		t.Error("raised at first")
	}
	reads(t, l, 1, 0, 0, false)
	l.Set(3, true)
	writes(t, l, 4, 8, true)
	if !l.Raised() {
		t.Error("not raised")
	}
}

// P10.1: each device alone, up and down, twice each: its bit is 1 << device.
func TestSetEachDevice(t *testing.T) {
	bits := []uint32{1: 2, 2: 4, 3: 8, 4: 16, 5: 32}
	for d := 1; d <= 5; d++ {
		l := New()
		l.Set(d, false)
		holds(t, l, 0, 0, false)
		for range 2 {
			l.Set(d, true)
			holds(t, l, bits[d], 0, false)
			l.Set(d, true)
			holds(t, l, bits[d], 0, false)
			l.Set(d, false)
			holds(t, l, 0, 0, false)
			l.Set(d, false)
			holds(t, l, 0, 0, false)
		}
	}
}

// P10.1: Set of a device, up and down, twice, is nothing to the others, whichever are up and enabled.
func TestSetBesideOthers(t *testing.T) {
	each(func(up uint32) {
		each(func(enabled uint32) {
			for d := 1; d <= 5; d++ {
				for _, rise := range []bool{true, false} {
					l := made(t, up, enabled)
					p := &plain{up: devices(up), enabled: devices(enabled)}
					for range 2 {
						l.Set(d, rise)
						p.set(d, rise)
						holdsPlain(t, l, p)
					}
					l.Set(d, !rise)
					p.set(d, !rise)
					holdsPlain(t, l, p)
				}
			}
		})
	})
}

// P10.1: Set of a number of which no device has a line changes nothing, whichever are up and enabled.
func TestSetOfStrangers(t *testing.T) {
	each(func(up uint32) {
		for _, enabled := range []uint32{0, 0x3e, up, 0x3e - up} {
			l := made(t, up, enabled)
			for _, d := range strangers() {
				for _, rise := range []bool{true, false, false, true} {
					l.Set(d, rise)
					holds(t, l, up, enabled, up&enabled != 0)
				}
			}
		}
	})
	l := New()
	for d := -300; d <= 300; d++ {
		if d < 1 || d > 5 {
			l.Set(d, true)
			holds(t, l, 0, 0, false)
		}
	}
}

// P10.1: each device up with each one enabled: raised where they are the same one alone.
func TestRaisedOfOne(t *testing.T) {
	for up := 1; up <= 5; up++ {
		for enabled := 1; enabled <= 5; enabled++ {
			l := New()
			l.Set(up, true)
			if l.Raised() {
				t.Fatalf("device %d is up, none is enabled: raised", up)
			}
			writes(t, l, 4, 1<<enabled, true)
			if got := l.Raised(); got != (up == enabled) {
				t.Fatalf("device %d is up, %d is enabled: raised %v", up, enabled, got)
			}
			l.Set(up, false)
			if l.Raised() {
				t.Fatalf("device %d is down again, %d is enabled: raised", up, enabled)
			}
			l.Set(up, true)
			if got := l.Raised(); got != (up == enabled) {
				t.Fatalf("device %d is up again, %d is enabled: raised %v", up, enabled, got)
			}
			writes(t, l, 4, 0, true)
			if l.Raised() {
				t.Fatalf("device %d is up, none is enabled any more: raised", up)
			}
		}
	}
}

// P10.1: all that may be up with all that may be enabled, set in either order.
func TestRaisedOfAll(t *testing.T) {
	each(func(up uint32) {
		each(func(enabled uint32) {
			p := &plain{up: devices(up), enabled: devices(enabled)}
			holdsPlain(t, made(t, up, enabled), p)
			l := New()
			writes(t, l, 4, enabled, true)
			holds(t, l, 0, enabled, false)
			for d := 5; d >= 1; d-- {
				l.Set(d, p.up[d])
			}
			holdsPlain(t, l, p)
			l.Set(3, true)
			writes(t, l, 4, 0, true)
			holds(t, l, up|8, 0, false)
		})
	})
}

// P10.1: the halves of now, whatever it is and whichever are up and enabled; now may go back, and is not kept.
func TestReadNow(t *testing.T) {
	for _, v := range []uint32{0, 0x3e, 0x14, 0x2a} {
		l := made(t, v, 0x3e-v)
		for _, m := range moments() {
			for _, other := range moments() {
				reads(t, l, 8, m.now, m.low, true)
				reads(t, l, 12, other.now, other.high, true)
				reads(t, l, 12, m.now, m.high, true)
				reads(t, l, 8, other.now, other.low, true)
			}
			reads(t, l, 0, m.now, v, true)
			reads(t, l, 4, m.now, 0x3e-v, true)
			if l.Raised() {
				t.Fatal("raised, but all that are up are not enabled")
			}
		}
	}
}

// P10.1: each bit of now, alone and missing, is in its half.
func TestReadNowBits(t *testing.T) {
	l := New()
	for bit := range 64 {
		low, high := uint32(0), uint32(0)
		if bit < 32 {
			low = 1 << bit
		} else {
			high = 1 << (bit - 32)
		}
		now := int64(uint64(1) << bit)
		reads(t, l, 8, now, low, true)
		reads(t, l, 12, now, high, true)
		reads(t, l, 8, -1-now, math.MaxUint32-low, true)
		reads(t, l, 12, -1-now, math.MaxUint32-high, true)
	}
}

// P10.1, R3: Read of what is no word is 0, false, whatever the time is and whichever are up and enabled.
func TestReadOfOthers(t *testing.T) {
	for _, v := range []uint32{0, 0x3e, 0x0a} {
		l := made(t, v, v)
		for _, at := range others() {
			for _, now := range []int64{0, 1, -1, math.MinInt64, math.MaxInt64, 0x0102030405060708} {
				reads(t, l, at, now, 0, false)
			}
			holds(t, l, v, v, v != 0)
		}
	}
}

// P10.1: Write at 4 of each bit alone, and of all but that one: of them bits 1 to 5 alone are enabled.
func TestWriteEnabledBits(t *testing.T) {
	for bit := range 32 {
		alone, missing := uint32(0), uint32(0x3e)
		if bit >= 1 && bit <= 5 {
			alone = 1 << bit
			missing = 0x3e - alone
		}
		l := made(t, 0x3e, 0)
		writes(t, l, 4, 1<<bit, true)
		holds(t, l, 0x3e, alone, alone != 0)
		writes(t, l, 4, math.MaxUint32-1<<bit, true)
		holds(t, l, 0x3e, missing, true)
		writes(t, l, 4, 1<<bit, true)
		holds(t, l, 0x3e, alone, alone != 0)
		writes(t, l, 4, 0, true)
		holds(t, l, 0x3e, 0, false)
	}
}

// P10.1: Write at 4 puts v in the place of what was enabled: more, fewer, others, and the same again; what is up stays.
func TestWriteEnabledAnew(t *testing.T) {
	each(func(was uint32) {
		each(func(v uint32) {
			for _, up := range []uint32{0, 0x3e, 0x12} {
				l := made(t, up, was)
				for range 2 {
					writes(t, l, 4, v, true)
					holds(t, l, up, v, up&v != 0)
				}
				writes(t, l, 4, v+0xffffffc1, true)
				holds(t, l, up, v, up&v != 0)
				writes(t, l, 4, was, true)
				holds(t, l, up, was, up&was != 0)
				writes(t, l, 4, math.MaxUint32, true)
				holds(t, l, up, 0x3e, up != 0)
			}
		})
	})
}

// odd are words to write.
func odd() []uint32 {
	return []uint32{0, 1, 2, 8, 0x20, 0x3e, 0x3f, 0x40, 0xff, 0xffffffc1, 1 << 31, math.MaxUint32}
}

// P10.1: Write at 0, 8 and 12 is true, and nothing.
func TestWriteOfNothing(t *testing.T) {
	each(func(up uint32) {
		for _, enabled := range []uint32{0, 0x3e, up, 0x3e - up} {
			l := made(t, up, enabled)
			for _, at := range []uint32{0, 8, 12} {
				for _, v := range odd() {
					writes(t, l, at, v, true)
					holds(t, l, up, enabled, up&enabled != 0)
				}
			}
			for _, m := range moments() {
				reads(t, l, 8, m.now, m.low, true)
				reads(t, l, 12, m.now, m.high, true)
			}
		}
	})
}

// P10.1, R3: Write of what is no word is false, and nothing.
func TestWriteOfOthers(t *testing.T) {
	for _, up := range []uint32{0, 0x3e, 0x0a} {
		for _, enabled := range []uint32{0, 0x3e, 0x24} {
			l := made(t, up, enabled)
			for _, at := range others() {
				for _, v := range odd() {
					writes(t, l, at, v, false)
					holds(t, l, up, enabled, up&enabled != 0)
				}
			}
			reads(t, l, 8, 0x0102030405060708, 0x05060708, true)
			reads(t, l, 12, 0x0102030405060708, 0x01020304, true)
		}
	}
}

// P10.1: of two Lines neither sees the other.
func TestTwoLines(t *testing.T) {
	one, other := New(), New()
	one.Set(2, true)
	writes(t, one, 4, 4, true)
	holds(t, other, 0, 0, false)
	other.Set(2, true)
	holds(t, other, 4, 0, false)
	writes(t, other, 4, 8, true)
	other.Set(5, true)
	holds(t, one, 4, 4, true)
	holds(t, other, 0x24, 8, false)
	one.Set(2, false)
	holds(t, one, 0, 4, false)
	holds(t, other, 0x24, 8, false)
	writes(t, other, 4, 0x20, true)
	holds(t, one, 0, 4, false)
	holds(t, other, 0x24, 0x20, true)
	holds(t, New(), 0, 0, false)
}

// P10.1: long rows of calls of any kind on two Lines in turn, against a plain telling.
func TestLongRows(t *testing.T) {
	for seed := range int64(10) {
		random := rand.New(rand.NewSource(seed))
		both, told := [2]*Lines{New(), New()}, [2]*plain{{}, {}}
		for range 5000 {
			which := random.Intn(2)
			step(t, random, both[which], told[which])
			holdsPlain(t, both[0], told[0])
			holdsPlain(t, both[1], told[1])
		}
	}
}

// step makes one call of any kind on both.
func step(t *testing.T, random *rand.Rand, l *Lines, p *plain) {
	t.Helper()
	switch random.Intn(6) {
	case 0, 1:
		device, up := random.Intn(7), random.Intn(2) == 0
		l.Set(device, up)
		p.set(device, up)
	case 2:
		device, up := int(random.Uint64()>>random.Intn(64)), random.Intn(2) == 0
		l.Set(device, up)
		p.set(device, up)
	case 3:
		v := random.Uint32() >> random.Intn(32)
		writes(t, l, 4, v, p.write(4, v))
	case 4:
		at, v := uint32(random.Intn(20)), random.Uint32()
		if random.Intn(4) == 0 {
			at = random.Uint32()
		}
		writes(t, l, at, v, p.write(at, v))
	default:
		low, high := random.Uint32(), random.Uint32()
		now := int64(uint64(high)*(1<<32) + uint64(low))
		reads(t, l, 8, now, low, true)
		reads(t, l, 12, now, high, true)
	}
}

// P10.1: every row of four calls out of a few, on two devices, against a plain telling.
func TestShortRows(t *testing.T) {
	const kinds, length = 12, 4
	rows := 1
	for range length {
		rows *= kinds
	}
	for row := range rows {
		l, p := New(), &plain{}
		for call, rest := 0, row; call < length; call, rest = call+1, rest/kinds {
			switch kind := rest % kinds; kind {
			case 0, 1, 2, 3:
				device, up := 1+kind/2*4, kind%2 == 0
				l.Set(device, up)
				p.set(device, up)
			case 4, 5, 6, 7:
				v := []uint32{0, 2, 0x20, 0x22}[kind-4]
				writes(t, l, 4, v, p.write(4, v))
			case 8, 9, 10:
				at := []uint32{0, 3, 8}[kind-8]
				writes(t, l, at, math.MaxUint32, p.write(at, math.MaxUint32))
			default:
				l.Set(6, true)
				p.set(6, true)
			}
			holdsPlain(t, l, p)
		}
	}
}
