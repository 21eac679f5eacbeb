package word

import (
	"math"
	"math/big"
	"math/rand"
	"strconv"
	"strings"
	"testing"
)

const (
	top  = 0x80000000
	all  = 0xffffffff
	most = 0x7fffffff
)

// samples are words at and around the bounds, and some from anywhere.
func samples() []uint32 {
	out := []uint32{0x12345678, 0xdeadbeef, 0x55555555, 0xaaaaaaaa}
	for shift := range 32 {
		p := uint32(1) << shift
		out = append(out, p-1, p, p+1, -p-1, -p, -p+1)
	}
	random := rand.New(rand.NewSource(7))
	for range 60 {
		out = append(out, random.Uint32()>>random.Intn(32))
	}
	return out
}

// number is v as a number of any size, so that no bound of 32 or 64 bits plays a part.
func number(v uint32, signed bool) *big.Int {
	n := new(big.Int).SetUint64(uint64(v))
	if signed && v >= top {
		n.Sub(n, new(big.Int).Lsh(big.NewInt(1), 32))
	}
	return n
}

// lowest is n modulo 2^32.
func lowest(n *big.Int) uint32 {
	m := new(big.Int).And(n, big.NewInt(all))
	return uint32(m.Uint64())
}

// digits are v's 32 bits as text, the highest ahead.
func digits(v uint32) string {
	s := strconv.FormatUint(uint64(v), 2)
	return strings.Repeat("0", 32-len(s)) + s
}

func fromDigits(t *testing.T, s string) uint32 {
	t.Helper()
	v, err := strconv.ParseUint(s, 2, 32)
	if err != nil {
		t.Fatal(err)
	}
	return uint32(v)
}

// P1.1: Sign, by rows that are written out.
func TestSignRows(t *testing.T) {
	for _, c := range []struct {
		v    uint32
		bits int
		want uint32
	}{
		{0x7f, 8, 0x7f}, {0x80, 8, 0xffffff80}, {0xff, 8, all}, {0x1234ff7f, 8, 0x7f}, {0x12340080, 8, 0xffffff80},
		{0x7fff, 16, 0x7fff}, {0x8000, 16, 0xffff8000}, {0xffff0001, 16, 1},
		{0, 1, 0}, {1, 1, all}, {2, 1, 0}, {3, 1, all},
		{0x3fffffff, 31, 0x3fffffff}, {0x40000000, 31, 0xc0000000}, {0x80000000, 31, 0}, {0xbfffffff, 31, 0x3fffffff},
	} {
		if got := Sign(c.v, c.bits); got != c.want {
			t.Errorf("Sign(%#x, %d): %#x, want %#x", c.v, c.bits, got, c.want)
		}
	}
}

// P1.1: Sign with numbers of bits below 1 and above 31, of any size.
func TestSignOddBits(t *testing.T) {
	for _, v := range samples() {
		for _, bits := range []int{0, -1, -31, -32, -33, -64, math.MinInt32, math.MinInt} {
			if got := Sign(v, bits); got != 0 {
				t.Errorf("Sign(%#x, %d): %#x, want 0", v, bits, got)
			}
		}
		for _, bits := range []int{32, 33, 63, 64, 65, 1 << 32, 1<<32 + 8, math.MaxInt32, math.MaxInt} {
			if got := Sign(v, bits); got != v {
				t.Errorf("Sign(%#x, %d): %#x, want the word itself", v, bits, got)
			}
		}
	}
}

// P1.1: Sign of every number of bits, against the bits as text.
func TestSignEveryWidth(t *testing.T) {
	for _, v := range samples() {
		for bits := 1; bits <= 31; bits++ {
			kept := digits(v)[32-bits:]
			want := fromDigits(t, strings.Repeat(kept[:1], 32-bits)+kept)
			if got := Sign(v, bits); got != want {
				t.Errorf("Sign(%#x, %d): %#x, want %#x", v, bits, got, want)
			}
		}
	}
}

// P1.1: Clz, Clo, by rows and against the bits as text.
func TestLeadingBits(t *testing.T) {
	for _, c := range []struct {
		v      uint32
		zs, os int
	}{{0, 32, 0}, {all, 0, 32}, {1, 31, 0}, {all - 1, 0, 31}, {top, 0, 1}, {most, 1, 0}, {0x00010000, 15, 0}, {0xffff0000, 0, 16}, {0xf0f0f0f0, 0, 4}, {0x0f0f0f0f, 4, 0}} {
		if zs, os := Clz(c.v), Clo(c.v); zs != c.zs || os != c.os {
			t.Errorf("Clz, Clo of %#x: %d, %d, want %d, %d", c.v, zs, os, c.zs, c.os)
		}
	}
	for _, v := range samples() {
		zs := 32 - len(strings.TrimLeft(digits(v), "0"))
		os := 32 - len(strings.TrimLeft(digits(v), "1"))
		if Clz(v) != zs || Clo(v) != os {
			t.Errorf("Clz, Clo of %#x: %d, %d, want %d, %d", v, Clz(v), Clo(v), zs, os)
		}
	}
}

// P1.1: Mul, by rows: the higher half stands ahead of the lower one.
func TestMulRows(t *testing.T) {
	for _, c := range []struct {
		a, b   uint32
		signed bool
		hi, lo uint32
	}{
		{3, 5, false, 0, 15}, {3, 5, true, 0, 15}, {0x10000, 0x10000, false, 1, 0}, {0x10000, 0x10000, true, 1, 0},
		{all, all, false, all - 1, 1}, {all, all, true, 0, 1}, {all, 2, false, 1, all - 1}, {all, 2, true, all, all - 1},
		{top, top, false, 0x40000000, 0}, {top, top, true, 0x40000000, 0}, {top, all, false, most, top}, {top, all, true, 0, top},
		{top, 1, true, all, top}, {0, top, true, 0, 0}, {most, most, true, 0x3fffffff, 1},
	} {
		if hi, lo := Mul(c.a, c.b, c.signed); hi != c.hi || lo != c.lo {
			t.Errorf("Mul(%#x, %#x, %v): %#x, %#x, want %#x, %#x", c.a, c.b, c.signed, hi, lo, c.hi, c.lo)
		}
	}
}

// P1.1: Div, by rows: signs, by 0, and the quotient that does not go into 32 bits.
func TestDivRows(t *testing.T) {
	for _, c := range []struct {
		a, b     uint32
		signed   bool
		quo, rem uint32
	}{
		{7, 2, false, 3, 1}, {7, 2, true, 3, 1},
		{-u(7), 2, true, -u(3), -u(1)}, {7, -u(2), true, -u(3), 1}, {-u(7), -u(2), true, 3, -u(1)}, {-u(7), 2, false, 0x7ffffffc, 1},
		{7, 0, false, all, 7}, {7, 0, true, all, 7}, {-u(7), 0, false, all, -u(7)}, {-u(7), 0, true, all, -u(7)},
		{0, 0, false, all, 0}, {0, 0, true, all, 0}, {top, 0, true, all, top}, {top, 0, false, all, top},
		{top, all, true, top, 0}, {top, all, false, 0, top}, {top, 1, true, top, 0}, {most, all, true, top + 1, 0}, {all, top, true, 0, all}, {1, top, true, 0, 1},
	} {
		if quo, rem := Div(c.a, c.b, c.signed); quo != c.quo || rem != c.rem {
			t.Errorf("Div(%#x, %#x, %v): %#x, %#x, want %#x, %#x", c.a, c.b, c.signed, quo, rem, c.quo, c.rem)
		}
	}
}

// u lets a row write a negative number as a word.
func u(v uint32) uint32 { return v }

// P1.1: Mul and Div of every pair, against numbers of any size.
func TestMulDivPairs(t *testing.T) {
	for _, a := range samples() {
		for _, b := range samples() {
			for _, signed := range []bool{false, true} {
				checkMul(t, a, b, signed)
				checkDiv(t, a, b, signed)
			}
		}
	}
}

func checkMul(t *testing.T, a, b uint32, signed bool) {
	t.Helper()
	product := new(big.Int).Mul(number(a, signed), number(b, signed))
	wantHi, wantLo := lowest(new(big.Int).Rsh(product, 32)), lowest(product)
	if hi, lo := Mul(a, b, signed); hi != wantHi || lo != wantLo {
		t.Errorf("Mul(%#x, %#x, %v): %#x, %#x, want %#x, %#x", a, b, signed, hi, lo, wantHi, wantLo)
	}
}

func checkDiv(t *testing.T, a, b uint32, signed bool) {
	t.Helper()
	wantQuo, wantRem := uint32(all), a
	if b != 0 {
		// QuoRem cuts off towards 0, as the promise does.
		quo, rem := new(big.Int).QuoRem(number(a, signed), number(b, signed), new(big.Int))
		wantQuo, wantRem = lowest(quo), lowest(rem)
	}
	if quo, rem := Div(a, b, signed); quo != wantQuo || rem != wantRem {
		t.Errorf("Div(%#x, %#x, %v): %#x, %#x, want %#x, %#x", a, b, signed, quo, rem, wantQuo, wantRem)
	}
}

// P1.2: Sar, by rows.
func TestSarRows(t *testing.T) {
	for _, c := range []struct {
		v    uint32
		n    int
		want uint32
	}{
		{top, 0, top}, {top, 1, 0xc0000000}, {top, 4, 0xf8000000}, {top, 31, all}, {most, 30, 1}, {most, 31, 0}, {0xf0, 4, 0xf},
		{top, 32, top}, {top, 33, 0xc0000000}, {most, 32, most}, {top, 63, all}, {top, 64, top},
		{top, -1, all}, {top, -31, 0xc0000000}, {top, -32, top}, {top, -33, all}, {0x40000000, -1, 0}, {0x40000000, -2, 1},
		{top, math.MaxInt, all}, {top, math.MaxInt - 30, 0xc0000000}, {top, math.MinInt, top}, {top, math.MinInt + 1, 0xc0000000},
	} {
		if got := Sar(c.v, c.n); got != c.want {
			t.Errorf("Sar(%#x, %d): %#x, want %#x", c.v, c.n, got, c.want)
		}
	}
}

// P1.2: Sar by every number of places, the same for all that are alike modulo 32.
func TestSarEveryPlace(t *testing.T) {
	for _, v := range samples() {
		bits := digits(v)
		for places := range 32 {
			want := fromDigits(t, strings.Repeat(bits[:1], places)+bits[:32-places])
			for _, turn := range []int{0, 32, 64, -32, -96, 1 << 40, -1 << 40, math.MinInt, math.MaxInt - 31} {
				if got := Sar(v, turn+places); got != want {
					t.Errorf("Sar(%#x, %d): %#x, want %#x", v, turn+places, got, want)
				}
			}
		}
	}
}

// P1.2: Over, at the bounds of 32 bits.
func TestOverRows(t *testing.T) {
	for _, c := range []struct {
		a, b        uint32
		plus, minus bool
	}{
		{1, 2, false, false}, {0, 0, false, false}, {all, all, false, false},
		{most, 0, false, false}, {most, 1, true, false}, {most - 1, 1, false, false}, {most, most, true, false}, {most, all, false, true}, {1, most, true, false},
		{top, 0, false, false}, {top, all, true, false}, {top + 1, all, false, false}, {top, 1, false, true}, {top + 1, 1, false, false}, {top, top, true, false},
		{0, top, false, true}, {all, top, true, false}, {top, most, false, true}, {most, top, false, true}, {-u(2), most, false, true}, {all, most, false, false},
	} {
		if got := Over(c.a, c.b, false); got != c.plus {
			t.Errorf("Over(%#x, %#x, false): %v", c.a, c.b, got)
		}
		if got := Over(c.a, c.b, true); got != c.minus {
			t.Errorf("Over(%#x, %#x, true): %v", c.a, c.b, got)
		}
	}
}

// P1.2: Less, where the sign tells and where it does not.
func TestLessRows(t *testing.T) {
	for _, c := range []struct {
		a, b             uint32
		signed, unsigned bool
	}{
		{1, 2, true, true}, {2, 1, false, false}, {1, 1, false, false}, {0, 0, false, false}, {top, top, false, false}, {all, all, false, false},
		{all, 0, true, false}, {0, all, false, true}, {top, most, true, false}, {most, top, false, true}, {top, all, true, true}, {all, top, false, false}, {top, top + 1, true, true},
	} {
		if got := Less(c.a, c.b, true); got != c.signed {
			t.Errorf("Less(%#x, %#x, true): %v", c.a, c.b, got)
		}
		if got := Less(c.a, c.b, false); got != c.unsigned {
			t.Errorf("Less(%#x, %#x, false): %v", c.a, c.b, got)
		}
	}
}

// P1.2: Over and Less of every pair, against numbers of any size.
func TestOverLessPairs(t *testing.T) {
	for _, a := range samples() {
		for _, b := range samples() {
			checkOver(t, a, b)
			for _, signed := range []bool{false, true} {
				want := number(a, signed).Cmp(number(b, signed)) < 0
				if got := Less(a, b, signed); got != want {
					t.Errorf("Less(%#x, %#x, %v): %v", a, b, signed, got)
				}
			}
		}
	}
}

func checkOver(t *testing.T, a, b uint32) {
	t.Helper()
	sum := new(big.Int).Add(number(a, true), number(b, true))
	if got, want := Over(a, b, false), !fits(sum); got != want {
		t.Errorf("Over(%#x, %#x, false): %v", a, b, got)
	}
	difference := new(big.Int).Sub(number(a, true), number(b, true))
	if got, want := Over(a, b, true), !fits(difference); got != want {
		t.Errorf("Over(%#x, %#x, true): %v", a, b, got)
	}
}

func fits(n *big.Int) bool {
	return n.Cmp(big.NewInt(math.MinInt32)) >= 0 && n.Cmp(big.NewInt(math.MaxInt32)) <= 0
}

// The chapter's run and its examples.
func TestChapter(t *testing.T) {
	if quo, rem := Div(7, 0, false); quo != all || rem != 7 {
		t.Errorf("Div(7, 0, false): %#x, %#x", quo, rem)
	}
	if got := Clz(1); got != 31 {
		t.Errorf("Clz(1): %d", got)
	}
	if !Over(most, 1, false) {
		t.Error("Over(0x7fffffff, 1, false): false")
	}
}
