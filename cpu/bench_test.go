package cpu

import (
	"bytes"
	"math/rand"
	"reflect"
	"slices"
	"testing"

	"pianola/api"
	"pianola/bus"
	"pianola/cp0"
	"pianola/decode"
)

// Where things are, behind translation, and by an address that is not mapped.
const (
	open = 0x80000000 // add it to where something lies

	linesAt  = 0x1f000000
	timer0At = 0x1f000040
	timer1At = 0x1f000080
	uartAt   = 0x1f0000c0
	dmaAt    = 0x1f000100
	diskAt   = 0x1f000140

	reset  = 0x80000400
	vector = 0x80000180
)

// Bits of Status and Cause.
const (
	ie      = 0x1
	exl     = 0x2
	um      = 0x10
	devices = 0x400
	clock   = 0x8000
	inSlot  = 0x80000000
)

// bench is a State and a bus, and a plain telling that is given the same.
type bench struct {
	t     *testing.T
	s     api.State
	b     *bus.Bus
	plain plain
}

// newBench has four pages and two sectors; set makes of both what the test is about.
func newBench(t *testing.T, set func(s *api.State, b *bus.Bus)) *bench {
	t.Helper()
	return sizedBench(t, 4, set)
}

func sizedBench(t *testing.T, pages int, set func(s *api.State, b *bus.Bus)) *bench {
	t.Helper()
	x := &bench{t: t, s: fresh(), b: newBus(pages), plain: plain{s: fresh(), b: newBus(pages)}}
	if set != nil {
		set(&x.s, x.b)
		set(&x.plain.s, x.plain.b)
	}
	for page := range pages {
		x.b.Ram().Mark(page)
		x.plain.b.Ram().Mark(page)
	}
	return x
}

func newBus(pages int) *bus.Bus {
	sectors := make([]byte, 128)
	for i := range sectors {
		sectors[i] = byte(200 + 3*i)
	}
	return bus.New(pages, nil, sectors)
}

// fresh is a State behind its start, told by itself.
func fresh() api.State {
	s := api.State{PC: reset, Next: reset + 4}
	s.C0[15] = 0x18000
	return s
}

// crowded has something of its own in each part of a State that no interrupt, no user's mode, no slot and no exception is told of, so that a step that turns too much is seen.
func crowded(s *api.State) {
	for n := 1; n < 32; n++ {
		s.R[n] = 0x5a000000 + uint32(n)*0x10101
	}
	s.Hi, s.Lo, s.Linked, s.Link = 0x11111111, 0x22222222, 0x33333330, true
	for n, v := range []uint32{3, 0, 0x12345407, 0, 0, 0, 0, 0, 0x88888888, 0x99999999, 0xaaaaa8a5, 0x77777777, 0xf800, 0x07000054, 0xe0e0e0e0, 0x18000} {
		s.C0[n] = v
	}
	for n := range s.Table {
		s.Table[n] = api.Entry{Hi: 0x60000000 + uint32(n)*0x400 + 0xa5, Lo: 0x40000000 + uint32(n)*0x400 + 3}
	}
	s.Time = 77
}

// told is all that a bus tells; asking takes nothing but what was written, and what came last.
type told struct {
	raised            bool
	words             []uint32
	memory, disk, out []byte
	events            []api.Event
	written           []int
}

func tell(b *bus.Bus) told {
	x := told{raised: b.Raised(), disk: b.Disk(), out: b.Out(), events: b.Events(), written: b.Ram().Written()}
	x.memory, _ = b.Ram().Bytes(0, int(b.Ram().Size()))
	for window, count := range []int{4, 3, 3, 3, 5, 4} {
		for word := range count {
			at := linesAt + uint32(window)*64 + uint32(word)*4
			if at == uartAt {
				continue // what is read there is gone
			}
			v, _ := b.Load(at, 4, 0)
			x.words = append(x.words, v)
		}
	}
	return x
}

func same(t *testing.T, what string, got, want api.State) {
	t.Helper()
	if got == want {
		return
	}
	a, b := reflect.ValueOf(got), reflect.ValueOf(want)
	for n := range a.NumField() {
		if x, y := a.Field(n).Interface(), b.Field(n).Interface(); x != y {
			t.Errorf("%s: %s is %#x, want %#x", what, a.Type().Field(n).Name, x, y)
		}
	}
	t.FailNow()
}

func sameBus(t *testing.T, what string, got, want told) {
	t.Helper()
	if got.raised != want.raised || !slices.Equal(got.words, want.words) || !slices.Equal(got.events, want.events) || !slices.Equal(got.written, want.written) {
		t.Fatalf("%s: raised %v, words %x, events %v, written %v, want %v, %x, %v, %v", what, got.raised, got.words, got.events, got.written, want.raised, want.words, want.events, want.written)
	}
	if !bytes.Equal(got.disk, want.disk) || !bytes.Equal(got.out, want.out) {
		t.Fatalf("%s: disk or what was sent: %x, %x, want %x, %x", what, got.disk, got.out, want.disk, want.out)
	}
	for n := range got.memory {
		if got.memory[n] != want.memory[n] {
			t.Fatalf("%s: byte %#x is %x, want %x", what, n, got.memory[n], want.memory[n])
		}
	}
}

// agrees holds the States against each other.
func (x *bench) agrees(what string) {
	x.t.Helper()
	same(x.t, what, x.s, x.plain.s)
}

// ends holds the buses against each other too, with what is left on the line.
func (x *bench) ends(what string) {
	x.t.Helper()
	x.agrees(what)
	sameBus(x.t, what, tell(x.b), tell(x.plain.b))
	for range 17 {
		got, _ := x.b.Load(uartAt, 4, 0)
		want, _ := x.plain.b.Load(uartAt, 4, 0)
		if got != want {
			x.t.Fatalf("%s: %#x is on the line, want %#x", what, got, want)
		}
	}
}

// exec has one instruction done by both, and gives the answer.
func (x *bench) exec(i api.Inst) int {
	x.t.Helper()
	was := x.s
	want := x.plain.exec(i)
	if got := Exec(&x.s, x.b, i); got != want {
		x.t.Fatalf("Exec(%v): %d, want %d, State %v", i, got, want, was)
	}
	x.agrees("behind Exec(" + name(i) + ")")
	return want
}

// step has one step done by both, and gives the answer.
func (x *bench) step() int {
	x.t.Helper()
	was := x.s
	want := x.plain.step()
	if got := Step(&x.s, x.b); got != want {
		x.t.Fatalf("Step: %d, want %d, State %v", got, want, was)
	}
	x.agrees("behind Step")
	return want
}

// fetch has one instruction fetched by both; what Bad tells is told of plain's State by itself, as it goes on to enter.
func (x *bench) fetch() (api.Inst, int, bool) {
	x.t.Helper()
	i, f := x.plain.fetch()
	if f.about {
		x.plain.s.C0[8] = f.va
		if f.code < 4 {
			x.plain.s.C0[10] = f.va - f.va%1024 + x.plain.s.C0[10]%1024
		}
	}
	got, code, refill := Fetch(&x.s, x.b)
	if got != i || code != f.code || refill != f.refill {
		x.t.Fatalf("Fetch at %#x: %v, %d, %v, want %v, %v", x.s.PC, got, code, refill, i, f)
	}
	x.agrees("behind Fetch")
	return got, code, refill
}

// name tells an instruction's numbers.
func name(i api.Inst) string {
	var out []byte
	for _, n := range []int{i.Kind, i.S, i.T, i.D, i.Shift, int(i.Imm)} {
		if n < 0 {
			out, n = append(out, '-'), -n
		}
		digits := []byte{byte('0' + n%10)}
		for n /= 10; n > 0; n /= 10 {
			digits = append(digits, byte('0'+n%10))
		}
		slices.Reverse(digits)
		out = append(append(out, digits...), ' ')
	}
	return string(out)
}

// Instructions by their fields.
func std(kind, s, t, d int) api.Inst { return api.Inst{Kind: kind, S: s, T: t, D: d} }

func sti(kind, s, t int, imm uint32) api.Inst {
	return api.Inst{Kind: kind, S: s, T: t, Imm: imm & 0xffff}
}

// program puts instructions into memory, the first one where at tells.
func program(t *testing.T, b *bus.Bus, at uint32, l ...api.Inst) {
	t.Helper()
	for n, i := range l {
		w, ok := decode.Word(i)
		if !ok || !b.Ram().Store(at+uint32(n)*4, 4, w) {
			t.Fatalf("no room for %v, or no word", i)
		}
	}
}

// put stores a word of a device.
func put(t *testing.T, b *bus.Bus, at, v uint32, now int64) {
	t.Helper()
	if !b.Store(at, 4, v, now) {
		t.Fatalf("Store(%#x): false", at)
	}
}

func wordAt(t *testing.T, b *bus.Bus, at uint32) uint32 {
	t.Helper()
	v, ok := b.Load(at, 4, 0)
	if !ok {
		t.Fatalf("Load(%#x): false", at)
	}
	return v
}

// kinds are all that there are.
func kinds() []int {
	var out []int
	for kind := 1; kind < api.Kinds; kind++ {
		out = append(out, kind)
	}
	return out
}

// anyInst is a right instruction of the kind.
func anyInst(random *rand.Rand, kind int) api.Inst {
	i := api.Inst{Kind: kind}
	for _, field := range fields(kind) {
		switch field {
		case 's':
			i.S = random.Intn(32)
		case 't':
			i.T = random.Intn(32)
		case 'd':
			i.D = random.Intn(32)
		case 'h':
			i.Shift = random.Intn(32)
		case 'i':
			i.Imm = random.Uint32() % 65536
		case 'j':
			i.Imm = random.Uint32() % (1 << 26)
		}
	}
	return i
}

// P16.1 to P16.4: the plain telling begins with the State that cp0 makes.
func TestFresh(t *testing.T) {
	same(t, "Fresh", fresh(), cp0.Fresh())
}
