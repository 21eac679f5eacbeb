package bus

import (
	"cmp"
	"math"
	"math/rand"
	"slices"
	"testing"

	"pianola/api"
)

// alarm is what a device is due at, and its number.
type alarm struct{ at, count int64 }

// job is what the mover and the disk have: three words, and how far they are.
type job struct {
	words             [3]uint64
	busy, done, wrong bool
}

func (j *job) status() uint32 {
	return bit(j.busy) + 2*bit(j.done) + 4*bit(j.wrong)
}

func (j *job) forget(v uint32) {
	j.done = j.done && v/2%2 == 0
	j.wrong = j.wrong && v/4%2 == 0
}

func bit(is bool) uint32 {
	if is {
		return 1
	}
	return 0
}

// clock is what a timer has.
type clock struct {
	runs, again, fired bool
	period             uint32
}

// word is a device's word: of which window, and which one there.
type word struct{ window, place int }

// plain tells a bus by itself: rows of bytes, what is due by device, and no line that is kept.
type plain struct {
	memory          []byte
	marked, written []bool
	enabled         [6]bool
	clocks          [2]clock
	came, goes, out []byte
	lost            bool
	asks            [2]bool // for what came, for nothing to go
	mover, keeper   job
	rows            [][64]byte
	due             map[int]alarm
	armed           int64
}

func newPlain(pages int, image, disk []byte) *plain {
	p := &plain{memory: make([]byte, pagesOf(pages)*1024), due: map[int]alarm{}}
	p.marked, p.written = make([]bool, pagesOf(pages)), make([]bool, pagesOf(pages))
	copy(p.memory, image)
	for i, b := range disk {
		if i == 4096 {
			break
		}
		if i%64 == 0 {
			p.rows = append(p.rows, [64]byte{})
		}
		p.rows[i/64][i%64] = b
	}
	return p
}

// lookUp tells which word is at at, of those that there are.
func lookUp(at uint32) (word, bool) {
	for window, count := range []int{4, 3, 3, 3, 5, 4} {
		for place := range count {
			if uint64(at) == 0x1f000000+uint64(window)*64+uint64(place)*4 {
				return word{window, place}, true
			}
		}
	}
	return word{}, false
}

func (p *plain) load(at uint32, n int, now int64) (uint32, bool) {
	if v, ok := number(p.memory, at, n); ok {
		return v, true
	}
	if w, ok := lookUp(at); ok && n == 4 {
		return p.read(w, now), true
	}
	return 0, false
}

func (p *plain) store(at uint32, n int, v uint32, now int64) bool {
	if _, ok := number(p.memory, at, n); ok {
		for i := n - 1; i >= 0; i-- {
			p.put(uint64(at)+uint64(i), byte(v))
			v /= 256
		}
		return true
	}
	w, ok := lookUp(at)
	if ok && n == 4 {
		p.write(w, v, now)
	}
	return ok && n == 4
}

func (p *plain) put(at uint64, v byte) {
	p.memory[at] = v
	if p.marked[at/1024] {
		p.written[at/1024] = true
	}
}

func (p *plain) read(w word, now int64) uint32 {
	switch w {
	case word{0, 0}:
		v := uint32(0)
		for device := 1; device <= 5; device++ {
			v += bit(p.line(device)) << device
		}
		return v
	case word{0, 1}:
		v := uint32(0)
		for device, is := range p.enabled {
			v += bit(is) << device
		}
		return v
	case word{0, 2}:
		return uint32(now % (1 << 32))
	case word{0, 3}:
		return uint32(now / (1 << 32))
	case word{3, 0}:
		if len(p.came) == 0 {
			return 256
		}
		v := p.came[0]
		p.came = p.came[1:]
		return uint32(v)
	case word{3, 1}:
		return bit(len(p.came) > 0) + 2*bit(len(p.goes) == 16) + 4*bit(p.lost) + 8*bit(len(p.goes) == 0)
	case word{3, 2}:
		return bit(p.asks[0]) + 2*bit(p.asks[1])
	case word{4, 0}, word{4, 1}, word{4, 2}:
		return uint32(p.mover.words[w.place])
	case word{4, 4}:
		return p.mover.status()
	case word{5, 0}, word{5, 1}, word{5, 2}:
		return uint32(p.keeper.words[w.place])
	case word{5, 3}:
		return p.keeper.status()
	}
	if w.window == 4 {
		return 0
	}
	c := p.clocks[w.window-1]
	return []uint32{bit(c.runs) + 2*bit(c.again), c.period, bit(c.fired)}[w.place]
}

func (p *plain) write(w word, v uint32, now int64) {
	switch w.window {
	case 0:
		for device := 1; device <= 5 && w.place == 1; device++ {
			p.enabled[device] = v>>device%2 == 1
		}
	case 1, 2:
		p.writeClock(w, v, now)
	case 3:
		p.writeLine(w.place, v, now)
	case 4:
		switch {
		case w.place < 3:
			p.mover.words[w.place] = uint64(v)
		case w.place == 4:
			p.mover.forget(v)
		case v%2 == 1 && !p.mover.busy:
			p.mover.busy = true
			p.arm(4, now+int64(min(4096, p.mover.words[2])/4)+1)
		}
	case 5:
		switch {
		case w.place < 2:
			p.keeper.words[w.place] = uint64(v)
		case w.place == 3:
			p.keeper.forget(v)
		case !p.keeper.busy:
			p.keeper.words[2] = uint64(v)
			p.keeper.busy = true
			p.arm(5, now+32)
		}
	}
}

func (p *plain) writeClock(w word, v uint32, now int64) {
	c := &p.clocks[w.window-1]
	switch w.place {
	case 0:
		c.runs, c.again = v%2 == 1, v/2%2 == 1
		delete(p.due, w.window)
		if c.runs {
			p.arm(w.window, now+max(int64(c.period), 1))
		}
	case 1:
		c.period = v
	case 2:
		c.fired = c.fired && v%2 == 0
	}
}

func (p *plain) writeLine(place int, v uint32, now int64) {
	switch place {
	case 0:
		if len(p.goes) == 0 {
			p.arm(3, now+8)
		}
		if len(p.goes) < 16 {
			p.goes = append(p.goes, byte(v))
		}
	case 1:
		p.lost = p.lost && v/4%2 == 0
	case 2:
		p.asks = [2]bool{v%2 == 1, v/2%2 == 1}
	}
}

func (p *plain) arm(device int, at int64) {
	p.due[device] = alarm{at, p.armed}
	p.armed++
}

// first is the device that is due first, or 0.
func (p *plain) first() int {
	found := 0
	for device := 1; device <= 5; device++ {
		a, ok := p.due[device]
		b, is := p.due[found]
		if ok && (!is || a.at < b.at || a.at == b.at && a.count < b.count) {
			found = device
		}
	}
	return found
}

func (p *plain) fire(now int64) int {
	for done := range 256 {
		device := p.first()
		if device == 0 || p.due[device].at > now {
			return done
		}
		at := p.due[device].at
		delete(p.due, device)
		p.come(device, at)
	}
	return 256
}

// come has what is due of the device done.
func (p *plain) come(device int, at int64) {
	switch device {
	case 1, 2:
		c := &p.clocks[device-1]
		c.fired = true
		c.runs = c.runs && c.again
		if c.again {
			p.arm(device, at+max(int64(c.period), 1))
		}
	case 3:
		if len(p.out) < 1<<16 {
			p.out = append(p.out, p.goes[0])
		}
		p.goes = p.goes[1:]
		if len(p.goes) > 0 {
			p.arm(3, at+8)
		}
	case 4:
		p.move()
	case 5:
		p.carry()
	}
}

func (p *plain) move() {
	p.mover.busy, p.mover.done = false, true
	from, to, count := p.mover.words[0], p.mover.words[1], p.mover.words[2]
	if count > 4096 || max(from, to)+count > uint64(len(p.memory)) {
		p.mover.wrong = true
		return
	}
	for i, b := range slices.Clone(p.memory[from : from+count]) {
		p.put(to+uint64(i), b)
	}
}

func (p *plain) carry() {
	p.keeper.busy, p.keeper.done = false, true
	sector, address, command := p.keeper.words[0], p.keeper.words[1], p.keeper.words[2]
	if sector >= uint64(len(p.rows)) || address+64 > uint64(len(p.memory)) || command != 1 && command != 2 {
		p.keeper.wrong = true
		return
	}
	for i := range uint64(64) {
		if command == 1 {
			p.put(address+i, p.rows[sector][i])
		} else {
			p.rows[sector][i] = p.memory[address+i]
		}
	}
}

func (p *plain) line(device int) bool {
	switch device {
	case 1, 2:
		return p.clocks[device-1].fired
	case 3:
		return p.asks[0] && len(p.came) > 0 || p.asks[1] && len(p.goes) == 0
	case 4:
		return p.mover.done || p.mover.wrong
	}
	return p.keeper.done || p.keeper.wrong
}

func (p *plain) raised() bool {
	for device := 1; device <= 5; device++ {
		if p.enabled[device] && p.line(device) {
			return true
		}
	}
	return false
}

func (p *plain) typed(b byte) {
	if len(p.came) == 16 {
		p.lost = true
	} else {
		p.came = append(p.came, b)
	}
}

// tell is the same telling as a bus's.
func (p *plain) tell() told {
	s := told{raised: p.raised(), next: none, memory: p.memory, out: p.out}
	for window := range 6 {
		for place := range wordsOf(window) {
			if w := (word{window, place}); w != (word{3, 0}) {
				s.words[window][place] = p.read(w, 0)
			}
		}
	}
	for device, a := range p.due {
		s.events = append(s.events, api.Event{At: a.at, Device: device, Seq: a.count})
	}
	slices.SortFunc(s.events, func(a, b api.Event) int {
		return cmp.Or(cmp.Compare(a.At, b.At), cmp.Compare(a.Seq, b.Seq))
	})
	if len(s.events) > 0 {
		s.next = s.events[0].At
	}
	for _, row := range p.rows {
		s.disk = append(s.disk, row[:]...)
	}
	return s
}

// bench is a bus, and its plain telling.
type bench struct {
	bus   *Bus
	plain *plain
}

func newBench(pages, image, disk int) *bench {
	return &bench{New(pages, photo(image), sectors(disk)), newPlain(pages, photo(image), sectors(disk))}
}

func (b *bench) load(t *testing.T, at uint32, n int, now int64) {
	t.Helper()
	want, is := b.plain.load(at, n, now)
	if got, ok := b.bus.Load(at, n, now); got != want || ok != is {
		t.Fatalf("Load(%#x, %d, %d): %#x, %v, want %#x, %v", at, n, now, got, ok, want, is)
	}
}

func (b *bench) store(t *testing.T, at uint32, n int, v uint32, now int64) {
	t.Helper()
	want := b.plain.store(at, n, v, now)
	if got := b.bus.Store(at, n, v, now); got != want {
		t.Fatalf("Store(%#x, %d, %#x, %d): %v, want %v", at, n, v, now, got, want)
	}
}

func (b *bench) fire(t *testing.T, now int64) {
	t.Helper()
	want := b.plain.fire(now)
	if got := b.bus.Fire(now); got != want {
		t.Fatalf("Fire(%d): %d, want %d", now, got, want)
	}
}

func (b *bench) typed(v byte) {
	b.plain.typed(v)
	b.bus.Type(v)
}

func (b *bench) mark(page int, is bool) {
	if is {
		b.bus.Ram().Mark(page)
	} else {
		b.bus.Ram().Unmark(page)
		b.plain.written[page] = false
	}
	b.plain.marked[page] = is
}

func (b *bench) written(t *testing.T) {
	t.Helper()
	var want []int
	for page, is := range b.plain.written {
		if is {
			want = append(want, page)
		}
		b.plain.written[page] = false
	}
	if got := b.bus.Ram().Written(); !slices.Equal(got, want) {
		t.Fatalf("pages %v are written, want %v", got, want)
	}
}

func (b *bench) agrees(t *testing.T) {
	t.Helper()
	agrees(t, tell(t, b.bus), b.plain.tell())
}

// ends asks for what is left on the line, too.
func (b *bench) ends(t *testing.T) {
	t.Helper()
	b.agrees(t)
	b.written(t)
	for range 17 {
		b.load(t, uartAt, 4, 1<<41)
	}
	b.agrees(t)
}

// P15.1, P15.2: long rows of calls of any kind, against a plain telling.
func TestLongRows(t *testing.T) {
	for seed := range int64(24) {
		random := rand.New(rand.NewSource(seed))
		pages := []int{1, 2, 4, 0}[seed%4]
		b := newBench(pages, []int{5000, 1000, 0}[seed%3], []int{300, 64, 4100, 0}[seed/4%4])
		now := int64(0)
		for range 3000 {
			now += pause(random, seed)
			b.step(t, random, now)
			b.agrees(t)
		}
		b.ends(t)
	}
}

// pause is how much time goes by between two calls: none or little, mostly; of some seeds, far at times.
func pause(random *rand.Rand, seed int64) int64 {
	switch {
	case random.Intn(3) > 0:
		return int64(random.Intn(3))
	case seed%2 == 1 && random.Intn(20) == 0:
		return int64(random.Uint64() >> (36 + random.Intn(28)))
	}
	return int64(random.Intn(40))
}

// step makes one call of any kind.
func (b *bench) step(t *testing.T, random *rand.Rand, now int64) {
	t.Helper()
	size := uint32(len(b.plain.memory))
	n := []int{1, 2, 4, 4, 4, 3, 0, 8}[random.Intn(8)]
	switch random.Intn(20) {
	case 0, 1, 2, 3, 4, 5, 6:
		at := anyWord(random)
		b.store(t, at, 4, value(random, at, size), now)
	case 7:
		b.store(t, anyWord(random)+uint32(random.Intn(5)), n, random.Uint32(), now)
	case 8, 9:
		b.load(t, anyWord(random), 4, now)
	case 10:
		b.load(t, anyWord(random)+uint32(random.Intn(5)), n, now)
	case 11:
		b.load(t, uint32(random.Intn(int(size)+10)), n, now)
	case 12:
		b.store(t, uint32(random.Intn(int(size)+10)), n, random.Uint32(), now)
	case 13:
		b.load(t, random.Uint32()>>random.Intn(32), n, now)
		b.store(t, random.Uint32()>>random.Intn(32), n, 1, now)
	case 14:
		b.typed(byte(random.Uint32()))
	case 15:
		for range random.Intn(20) {
			b.typed(byte(random.Uint32()))
		}
	case 16:
		b.mark(random.Intn(int(size)/1024), random.Intn(3) > 0)
	case 17:
		b.written(t)
	default:
		b.fire(t, now)
	}
}

// anyWord is one of the devices' words.
func anyWord(random *rand.Rand) uint32 {
	window := random.Intn(6)
	return linesAt + uint32(window)*64 + uint32(random.Intn(wordsOf(window)))*4
}

// value is mostly one that means something in the word at at.
func value(random *rand.Rand, at, size uint32) uint32 {
	if random.Intn(12) == 0 {
		return random.Uint32() >> random.Intn(32)
	}
	switch at {
	case timer0At + 4, timer1At + 4:
		return uint32(random.Intn(60))
	case dmaAt, dmaAt + 4, diskAt + 4:
		return uint32(random.Intn(int(size)))
	case dmaAt + 8:
		return uint32(random.Intn(200))
	case diskAt:
		return uint32(random.Intn(5))
	case linesAt + 4, uartAt:
		return random.Uint32() % 256
	}
	return uint32(random.Intn(8))
}

// P15.1, P15.2: every row of five calls out of a few, and what comes due behind it, against a plain telling.
func TestShortRows(t *testing.T) {
	const kinds, length = 12, 5
	rows := 1
	for range length {
		rows *= kinds
	}
	for row := range rows {
		b := newBench(1, 300, 64)
		b.mark(0, true)
		b.store(t, linesAt+4, 4, 0x3e, 0)
		for call, rest := 0, row; call < length; call, rest = call+1, rest/kinds {
			b.call(t, rest%kinds, int64(call)*9)
			if want := b.plain.raised(); b.bus.Raised() != want {
				t.Fatalf("row %d, call %d: Raised: %v", row, call, !want)
			}
		}
		b.fire(t, 70)
		b.ends(t)
	}
}

// call makes one of the calls of short rows.
func (b *bench) call(t *testing.T, kind int, now int64) {
	t.Helper()
	switch kind {
	case 0:
		b.fire(t, now)
	case 1:
		b.store(t, timer0At, 4, 3, now)
	case 2:
		b.store(t, timer1At, 4, 1, now)
	case 3:
		b.store(t, uartAt, 4, 'A'+uint32(now), now)
	case 4:
		b.store(t, uartAt+8, 4, 3, now)
	case 5:
		b.store(t, dmaAt+8, 4, 36, now)
		b.store(t, dmaAt+4, 4, 10, now)
		b.store(t, dmaAt+12, 4, 1, now)
	case 6:
		b.store(t, diskAt+8, 4, 1, now)
	case 7:
		b.typed('x')
	case 8:
		b.load(t, uartAt, 4, now)
	case 9:
		b.store(t, timer0At+8, 4, 1, now)
		b.store(t, dmaAt+16, 4, 2, now)
	case 10:
		b.store(t, 8, 4, math.MaxUint32, now)
	default:
		b.store(t, diskAt+4, 4, 961, now)
	}
}
