package word_test

import (
	"math"
	"math/big"
	"testing"

	"changeling/word"
)

const (
	least = 1 << 31
	most  = 1<<31 - 1
	ones  = 1<<32 - 1 // -1, signed
)

// samples are the edges of words, and some that lie between, from a fixed rule.
func samples() []uint32 {
	l := []uint32{0, 1, 2, 3, 7, 31, 32, 33, 127, 128, 255, 256, 32767, 32768, 65535, 65536, most - 1, most, least, least + 1, least + 2, ones - 6, ones - 2, ones - 1, ones}
	for x, i := uint32(12345), 0; i < 40; i++ {
		x = x*1664525 + 1013904223
		l = append(l, x, x>>(uint(i)%32))
	}
	return l
}

// pairs calls f with every two samples.
func pairs(f func(a, b uint32)) {
	l := samples()
	for _, a := range l {
		for _, b := range l {
			f(a, b)
		}
	}
}

// number of a word, worked out apart from the package: one from 2^31 on is 2^32 less, signed.
func number(w uint32, signed bool) *big.Int {
	n := new(big.Int).SetUint64(uint64(w))
	if signed && w >= least {
		n.Sub(n, big.NewInt(1<<32))
	}
	return n
}

// part of a number: the 32 bits from bit at on.
func part(n *big.Int, at uint) uint32 {
	m := new(big.Int).Rsh(n, at)
	return uint32(m.Mod(m, big.NewInt(1<<32)).Uint64())
}

func isNoWord(n *big.Int) bool {
	return n.Cmp(big.NewInt(math.MinInt32)) < 0 || n.Cmp(big.NewInt(math.MaxInt32)) > 0
}

// P10
func TestAddAndSubAtEdges(t *testing.T) {
	for _, c := range []struct {
		a, b, sum, diff uint32
		over, under     bool
	}{
		{0, 0, 0, 0, false, false},
		{5, 7, 12, ones - 1, false, false},
		{most, 1, least, most - 1, true, false},
		{most, most, ones - 1, 0, true, false},
		{most, ones, most - 1, least, false, true},
		{least, ones, most, least + 1, true, false},
		{least, 1, least + 1, most, false, true},
		{least, least, 0, 0, true, false},
		{least, most, ones, 1, false, true},
		{0, least, least, least, false, true},
		{ones, least, most, most, true, false},
		{ones, 1, 0, ones - 1, false, false},
		{ones, ones, ones - 1, 0, false, false},
	} {
		if sum, over := word.Add(c.a, c.b); sum != c.sum || over != c.over {
			t.Errorf("Add(%d, %d) = %d, %v", c.a, c.b, sum, over)
		}
		if diff, under := word.Sub(c.a, c.b); diff != c.diff || under != c.under {
			t.Errorf("Sub(%d, %d) = %d, %v", c.a, c.b, diff, under)
		}
	}
}

// P10
func TestAddAndSubAsNumbers(t *testing.T) {
	pairs(func(a, b uint32) {
		x, y := number(a, true), number(b, true)
		n := new(big.Int).Add(x, y)
		if sum, over := word.Add(a, b); sum != part(n, 0) || over != isNoWord(n) {
			t.Errorf("Add(%d, %d) = %d, %v", a, b, sum, over)
		}
		n.Sub(x, y)
		if diff, under := word.Sub(a, b); diff != part(n, 0) || under != isNoWord(n) {
			t.Errorf("Sub(%d, %d) = %d, %v", a, b, diff, under)
		}
	})
}

// P10
func TestMul(t *testing.T) {
	for _, c := range []struct {
		a, b   uint32
		signed bool
		hi, lo uint32
	}{
		{6, 7, false, 0, 42},
		{6, 7, true, 0, 42},
		{ones, 3, true, ones, ones - 2},
		{ones, 3, false, 2, ones - 2},
		{ones, ones, true, 0, 1},
		{ones, ones, false, ones - 1, 1},
		{least, least, true, 1 << 30, 0},
		{least, least, false, 1 << 30, 0},
		{least, ones, true, 0, least},
		{least, most, true, 0xC0000000, least},
		{0, ones, true, 0, 0},
	} {
		if hi, lo := word.Mul(c.a, c.b, c.signed); hi != c.hi || lo != c.lo {
			t.Errorf("Mul(%d, %d, %v) = %d, %d", c.a, c.b, c.signed, hi, lo)
		}
	}
	for _, signed := range []bool{false, true} {
		pairs(func(a, b uint32) {
			n := new(big.Int).Mul(number(a, signed), number(b, signed))
			if hi, lo := word.Mul(a, b, signed); hi != part(n, 32) || lo != part(n, 0) {
				t.Errorf("Mul(%d, %d, %v) = %d, %d", a, b, signed, hi, lo)
			}
		})
	}
}

// P10
func TestDivAtEdges(t *testing.T) {
	for _, c := range []struct {
		a, b   uint32
		signed bool
		q, r   uint32
		ok     bool
	}{
		{17, 5, true, 3, 2, true},
		{17, 5, false, 3, 2, true},
		{ones - 16, 5, true, ones - 2, ones - 1, true},
		{17, ones - 4, true, ones - 2, 2, true},
		{ones - 16, ones - 4, true, 3, ones - 1, true},
		{ones - 6, 2, false, most - 3, 1, true},
		{3, 5, true, 0, 3, true},
		{0, ones, true, 0, 0, true},
		{least, ones, true, least, 0, true},
		{least, ones, false, 0, least, true},
		{least, 1, true, least, 0, true},
		{least, least, true, 1, 0, true},
		{most, least, true, 0, most, true},
		{0, 0, true, 0, 0, false},
		{9, 0, true, 0, 0, false},
		{ones, 0, false, 0, 0, false},
		{least, 0, true, 0, 0, false},
	} {
		if q, r, ok := word.Div(c.a, c.b, c.signed); q != c.q || r != c.r || ok != c.ok {
			t.Errorf("Div(%d, %d, %v) = %d, %d, %v", c.a, c.b, c.signed, q, r, ok)
		}
	}
}

// P10
func TestDivAsNumbers(t *testing.T) {
	for _, signed := range []bool{false, true} {
		pairs(func(a, b uint32) {
			q, r, ok := word.Div(a, b, signed)
			if ok != (b != 0) {
				t.Errorf("Div(%d, %d, %v): %v", a, b, signed, ok)
			}
			if b == 0 {
				if q != 0 || r != 0 {
					t.Errorf("Div(%d, 0, %v) = %d, %d", a, signed, q, r)
				}
				return
			}
			wantQ, wantR := new(big.Int).QuoRem(number(a, signed), number(b, signed), new(big.Int))
			if q != part(wantQ, 0) || r != part(wantR, 0) {
				t.Errorf("Div(%d, %d, %v) = %d, %d", a, b, signed, q, r)
			}
		})
	}
}

// P10
func TestLess(t *testing.T) {
	for _, c := range []struct {
		a, b             uint32
		signed, unsigned bool
	}{
		{3, 4, true, true},
		{4, 3, false, false},
		{4, 4, false, false},
		{least, most, true, false},
		{most, least, false, true},
		{ones, 0, true, false},
		{0, ones, false, true},
		{least, least, false, false},
		{least, ones, true, true},
	} {
		if word.Less(c.a, c.b, true) != c.signed || word.Less(c.a, c.b, false) != c.unsigned {
			t.Errorf("Less(%d, %d)", c.a, c.b)
		}
	}
	for _, signed := range []bool{false, true} {
		pairs(func(a, b uint32) {
			if word.Less(a, b, signed) != (number(a, signed).Cmp(number(b, signed)) < 0) {
				t.Errorf("Less(%d, %d, %v)", a, b, signed)
			}
		})
	}
}

// P11
func TestShiftAtEdges(t *testing.T) {
	for _, c := range []struct {
		kind       byte
		a, n, want uint32
	}{
		{'<', 3, 4, 48},
		{'<', 3, 31, least},
		{'<', 3, 0, 3},
		{'<', 3, 32, 3},
		{'<', 3, 36, 48},
		{'<', 3, ones, least},
		{'>', 48, 4, 3},
		{'>', ones, 31, 1},
		{'>', ones, 32, ones},
		{'>', ones, 63, 1},
		{'>', least, 1, 1 << 30},
		{'~', 48, 4, 3},
		{'~', most, 31, 0},
		{'~', least, 31, ones},
		{'~', least, 1, 3 << 30},
		{'~', least, 32, least},
		{'~', least, 65, 3 << 30},
	} {
		if got := word.Shift(c.kind, c.a, c.n); got != c.want {
			t.Errorf("Shift(%q, %d, %d) = %d", c.kind, c.a, c.n, got)
		}
	}
}

// P11
func TestShiftOfEveryKind(t *testing.T) {
	for kind := range 256 {
		for _, a := range samples() {
			for _, n := range []uint32{0, 1, 5, 31, 32, 33, 64, ones} {
				want := a
				switch kind {
				case '<':
					want = part(new(big.Int).Lsh(number(a, false), uint(n%32)), 0)
				case '>':
					want = part(number(a, false), uint(n%32))
				case '~':
					want = part(number(a, true), uint(n%32))
				}
				if got := word.Shift(byte(kind), a, n); got != want {
					t.Errorf("Shift(%d, %d, %d) = %d", kind, a, n, got)
				}
			}
		}
	}
}

// P11
func TestWideAtEdges(t *testing.T) {
	for _, c := range []struct {
		v      uint32
		bits   int
		signed bool
		want   uint32
	}{
		{0xABCD, 8, false, 0xCD},
		{0xABCD, 8, true, 0xFFFFFFCD},
		{0xAB4D, 8, true, 0x4D},
		{0x12348000, 16, true, 0xFFFF8000},
		{0x12348000, 16, false, 0x8000},
		{0xFFFF7FFF, 16, true, 0x7FFF},
		{1, 1, false, 1},
		{1, 1, true, ones},
		{2, 1, true, 0},
		{ones, 31, false, most},
		{most, 31, true, ones},
		{least, 31, true, 0},
		{ones, 32, false, ones},
		{least, 32, true, least},
		{least, 32, false, least},
	} {
		if got := word.Wide(c.v, c.bits, c.signed); got != c.want {
			t.Errorf("Wide(%d, %d, %v) = %d", c.v, c.bits, c.signed, got)
		}
	}
}

// P11
func TestWideOfNoNumberOfBits(t *testing.T) {
	for _, bits := range []int{0, -1, -8, -32, 33, 40, 64, math.MinInt, math.MaxInt, math.MinInt32, math.MaxInt32, 1<<32 + 8} {
		for _, v := range samples() {
			for _, signed := range []bool{false, true} {
				if got := word.Wide(v, bits, signed); got != v {
					t.Errorf("Wide(%d, %d, %v) = %d", v, bits, signed, got)
				}
			}
		}
	}
}

// P11
func TestWideOfEveryNumberOfBits(t *testing.T) {
	for bits := 1; bits <= 32; bits++ {
		for _, v := range samples() {
			low := uint64(v) % (1 << bits)
			if got := word.Wide(v, bits, false); uint64(got) != low {
				t.Errorf("Wide(%d, %d, false) = %d", v, bits, got)
			}
			if low >= 1<<(bits-1) {
				low += 1<<32 - 1<<bits
			}
			if got := word.Wide(v, bits, true); uint64(got) != low {
				t.Errorf("Wide(%d, %d, true) = %d", v, bits, got)
			}
		}
	}
}

// P12
func TestWhatIsAddedIsTakenOff(t *testing.T) {
	pairs(func(a, b uint32) {
		sum, _ := word.Add(a, b)
		if back, _ := word.Sub(sum, b); back != a {
			t.Errorf("%d and %d, less it, is %d", a, b, back)
		}
		diff, _ := word.Sub(a, b)
		if back, _ := word.Add(diff, b); back != a {
			t.Errorf("%d less %d, and it, is %d", a, b, back)
		}
	})
}

// P12
func TestQuotientAndRestMakeItAgain(t *testing.T) {
	for _, signed := range []bool{false, true} {
		pairs(func(a, b uint32) {
			q, r, ok := word.Div(a, b, signed)
			if !ok {
				return
			}
			_, product := word.Mul(q, b, signed)
			if back, _ := word.Add(product, r); back != a {
				t.Errorf("Div(%d, %d, %v) = %d, %d, which makes %d", a, b, signed, q, r, back)
			}
		})
	}
}
