package code_test

import (
	"math"
	"testing"

	"changeling/api"
	"changeling/code"
)

// row of the document's table, as it stands there; of an operation without MINOR, minor is 0.
type row struct {
	op           int
	major, minor uint32
	fields, kind string
}

func rows() []row {
	return []row{
		{api.ISll, 0, 0, "TDa", "sum"}, {api.ISrl, 0, 2, "TDa", "sum"}, {api.ISra, 0, 3, "TDa", "sum"},
		{api.ISllv, 0, 4, "STD", "sum"}, {api.ISrlv, 0, 6, "STD", "sum"}, {api.ISrav, 0, 7, "STD", "sum"},
		{api.IJr, 0, 8, "S", "branch"}, {api.IJalr, 0, 9, "SD", "branch"},
		{api.ISyscall, 0, 12, "", "trap"}, {api.IBreak, 0, 13, "", "trap"},
		{api.IMfhi, 0, 16, "D", "sum"}, {api.IMthi, 0, 17, "S", "sum"}, {api.IMflo, 0, 18, "D", "sum"}, {api.IMtlo, 0, 19, "S", "sum"},
		{api.IMult, 0, 24, "ST", "sum"}, {api.IMultu, 0, 25, "ST", "sum"}, {api.IDiv, 0, 26, "ST", "sum"}, {api.IDivu, 0, 27, "ST", "sum"},
		{api.IAdd, 0, 32, "STD", "sum"}, {api.IAddu, 0, 33, "STD", "sum"}, {api.ISub, 0, 34, "STD", "sum"}, {api.ISubu, 0, 35, "STD", "sum"},
		{api.IAnd, 0, 36, "STD", "sum"}, {api.IOr, 0, 37, "STD", "sum"}, {api.IXor, 0, 38, "STD", "sum"}, {api.INor, 0, 39, "STD", "sum"},
		{api.ISlt, 0, 42, "STD", "sum"}, {api.ISltu, 0, 43, "STD", "sum"},
		{api.IJ, 2, 0, "j", "branch"}, {api.IJal, 3, 0, "j", "branch"},
		{api.IBeq, 4, 0, "STi", "branch"}, {api.IBne, 5, 0, "STi", "branch"}, {api.IBlez, 6, 0, "Si", "branch"}, {api.IBgtz, 7, 0, "Si", "branch"},
		{api.IAddi, 8, 0, "STi", "sum"}, {api.IAddiu, 9, 0, "STi", "sum"}, {api.ISlti, 10, 0, "STi", "sum"}, {api.ISltiu, 11, 0, "STi", "sum"},
		{api.IAndi, 12, 0, "STi", "sum"}, {api.IOri, 13, 0, "STi", "sum"}, {api.IXori, 14, 0, "STi", "sum"}, {api.ILui, 15, 0, "Ti", "sum"},
		{api.IMfc0, 16, 0, "TD", "trap"}, {api.IMtc0, 16, 4, "TD", "trap"}, {api.IEret, 16, 16, "", "trap"},
		{api.ILb, 32, 0, "STi", "load"}, {api.ILh, 33, 0, "STi", "load"}, {api.ILw, 35, 0, "STi", "load"}, {api.ILbu, 36, 0, "STi", "load"}, {api.ILhu, 37, 0, "STi", "load"},
		{api.ISb, 40, 0, "STi", "store"}, {api.ISh, 41, 0, "STi", "store"}, {api.ISw, 43, 0, "STi", "store"},
	}
}

func (r row) has(letter byte) bool {
	for i := range len(r.fields) {
		if r.fields[i] == letter {
			return true
		}
	}
	return false
}

// most that Imm of the row may be.
func (r row) most() uint32 {
	switch {
	case r.has('a'):
		return 31
	case r.has('i'):
		return 65535
	case r.has('j'):
		return 1<<26 - 1
	}
	return 0
}

// word of an instruction of the row that is well, by the places that the document tells.
func (r row) word(i api.Ins) uint32 {
	w := r.major * (1 << 26)
	w += uint32(i.S)*(1<<21) + uint32(i.T)*(1<<16) + uint32(i.D)*(1<<11)
	switch {
	case r.has('a'):
		return w + i.Imm*(1<<6) + r.minor
	case r.op == api.IEret:
		return w + r.minor*(1<<21) + 24
	case r.major == 16:
		return w + r.minor*(1<<21)
	}
	return w + i.Imm + r.minor
}

// each instruction of the row whose fields are edges or between.
func (r row) each(f func(i api.Ins)) {
	numbers := func(letter byte) []int {
		if r.has(letter) {
			return []int{0, 1, 2, 12, 16, 24, 30, 31}
		}
		return []int{0}
	}
	imms := []uint32{0}
	if m := r.most(); m > 0 {
		imms = []uint32{0, 1, 2, m / 3, m / 2, m/2 + 1, m - 1, m}
	}
	for _, s := range numbers('S') {
		for _, t := range numbers('T') {
			for _, d := range numbers('D') {
				for _, imm := range imms {
					f(api.Ins{Op: r.op, S: s, T: t, D: d, Imm: imm})
				}
			}
		}
	}
}

// words from a fixed rule, each also with its highest and with its lowest bits as in an instruction without many fields.
func words() []uint32 {
	l := []uint32{0, 1, math.MaxUint32, 1 << 31}
	x := uint32(2463534242)
	for range 100000 {
		x = x*1664525 + 1013904223
		y := x ^ x>>13
		l = append(l, y, y&0x03FFFFFF, y&0x03FFF83F, y&0x001FF800|16<<26, y&0x03FF003F|16<<26, y&0xFC1FFFFF)
	}
	return l
}

// P20
func TestEveryOperationHasItsWord(t *testing.T) {
	seen := 0
	for _, r := range rows() {
		seen++
		r.each(func(i api.Ins) {
			want := r.word(i)
			if got, err := code.Encode(i); got != want || err != nil {
				t.Errorf("%v: %08x, %v, not %08x", i, got, err, want)
			}
			if got := code.Decode(want); got != i {
				t.Errorf("%08x: %v, not %v", want, got, i)
			}
		})
	}
	if seen != api.Ops-1 {
		t.Errorf("%d operations, not %d", seen, api.Ops-1)
	}
}

// P20: the document's example.
func TestExampleWord(t *testing.T) {
	if w, err := code.Encode(api.Ins{Op: api.IAddiu, T: 1, Imm: 7}); w != 604045319 || err != nil {
		t.Error(w, err)
	}
}

// P21
func TestBitsOfNoFieldAreZero(t *testing.T) {
	for _, r := range rows() {
		r.each(func(i api.Ins) {
			w := r.word(i)
			for bit := range 32 {
				x := w ^ 1<<bit
				if got, want := code.Decode(x), decoded(x); got != want {
					t.Fatalf("%08x: %v, not %v", x, got, want)
				}
			}
		})
	}
}

// decoded is a word's instruction, found by trying every operation.
func decoded(w uint32) api.Ins {
	for _, r := range rows() {
		i := api.Ins{Op: r.op}
		if r.has('S') {
			i.S = int(w / (1 << 21) % 32)
		}
		if r.has('T') {
			i.T = int(w / (1 << 16) % 32)
		}
		if r.has('D') {
			i.D = int(w / (1 << 11) % 32)
		}
		switch {
		case r.has('a'):
			i.Imm = w / (1 << 6) % 32
		case r.has('i'):
			i.Imm = w % 65536
		case r.has('j'):
			i.Imm = w % (1 << 26)
		}
		if r.word(i) == w {
			return i
		}
	}
	return api.Ins{}
}

// P21
func TestDecodeOfWordsByRule(t *testing.T) {
	for _, w := range words()[:60000] {
		if got, want := code.Decode(w), decoded(w); got != want {
			t.Fatalf("%08x: %v, not %v", w, got, want)
		}
	}
}

// P21
func TestEncodeOfNoOperation(t *testing.T) {
	for _, op := range []int{api.Bad, -1, api.Ops, api.Ops + 1, math.MinInt, math.MaxInt} {
		for _, i := range []api.Ins{{Op: op}, {Op: op, S: 1}, {Op: op, S: -1, T: 99, D: 99, Imm: math.MaxUint32}} {
			if w, err := code.Encode(i); w != 0 || err != api.ErrKind {
				t.Errorf("%v: %d %v", i, w, err)
			}
		}
	}
}

// P21
func TestEncodeOfFieldsOutOfBounds(t *testing.T) {
	for _, r := range rows() {
		good := api.Ins{Op: r.op}
		var bad []api.Ins
		for _, n := range []int{-1, 32, 33, 64, math.MinInt, math.MaxInt, -32} {
			s, u, d := good, good, good
			s.S, u.T, d.D = n, n, n
			bad = append(bad, s, u, d)
		}
		for _, n := range []uint32{r.most() + 1, r.most() + 2, 1 << 26, 1 << 31, math.MaxUint32} {
			i := good
			i.Imm = n
			bad = append(bad, i)
		}
		// A field that the operation has not is not 0, though it would fit into its bits.
		for _, n := range []int{1, 31} {
			s, u, d := good, good, good
			s.S, u.T, d.D = n, n, n
			for letter, i := range map[byte]api.Ins{'S': s, 'T': u, 'D': d} {
				if !r.has(letter) {
					bad = append(bad, i)
				}
			}
		}
		for _, i := range bad {
			if w, err := code.Encode(i); w != 0 || err != api.ErrBound {
				t.Errorf("%v: %d %v", i, w, err)
			}
		}
	}
}

// P21
func TestFields(t *testing.T) {
	for _, r := range rows() {
		if got := code.Fields(r.op); got != r.fields {
			t.Errorf("%d: %q, not %q", r.op, got, r.fields)
		}
	}
	for _, op := range []int{api.Bad, -1, api.Ops, api.Ops + 1, math.MinInt, math.MaxInt} {
		if got := code.Fields(op); got != "" {
			t.Errorf("%d: %q", op, got)
		}
	}
}

// P22
func TestKind(t *testing.T) {
	for _, r := range rows() {
		if got := code.Kind(r.op); got != r.kind {
			t.Errorf("%d: %q, not %q", r.op, got, r.kind)
		}
	}
	if got := code.Kind(api.Bad); got != "trap" {
		t.Errorf("Bad: %q", got)
	}
	for _, op := range []int{-1, api.Ops, api.Ops + 1, math.MinInt, math.MaxInt} {
		if got := code.Kind(op); got != "" {
			t.Errorf("%d: %q", op, got)
		}
	}
}

// P23
func TestAWordThatIsAnInstructionIsItsWord(t *testing.T) {
	many := 0
	for _, w := range words() {
		i := code.Decode(w)
		if i.Op == api.Bad {
			if i != (api.Ins{}) {
				t.Fatalf("%08x: %v", w, i)
			}
			continue
		}
		many++
		if again, err := code.Encode(i); again != w || err != nil {
			t.Fatalf("%08x: %v is %08x, %v", w, i, again, err)
		}
	}
	if many < 10000 {
		t.Errorf("only %d of the words are instructions", many)
	}
}
