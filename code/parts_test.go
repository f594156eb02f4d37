package code_test

import (
	"math"
	"testing"

	"changeling/api"
	"changeling/code"
)

// P62: what an instruction has at once is signed, but of andi, ori, xori and lui.
func TestImm(t *testing.T) {
	for op := range api.Ops {
		for imm, word := range map[uint32]uint32{0: 0, 31: 31, 32767: 32767, 32768: 1<<32 - 32768, 65535: math.MaxUint32} {
			switch op {
			case api.IAndi, api.IOri, api.IXori, api.ILui:
				word = imm
			}
			if got := code.Imm(api.Ins{Op: op, Imm: imm}); got != word {
				t.Errorf("%d of operation %d: %d, not %d", imm, op, got, word)
			}
		}
	}
}

// P62
func TestBytes(t *testing.T) {
	for op, want := range map[int]struct {
		size   int
		signed bool
	}{
		api.ILb: {1, true}, api.ILbu: {1, false}, api.ISb: {1, false}, api.ILh: {2, true}, api.ILhu: {2, false}, api.ISh: {2, false}, api.ILw: {4, false}, api.ISw: {4, false},
	} {
		if size, signed := code.Bytes(op); size != want.size || signed != want.signed {
			t.Errorf("operation %d: %d, %t", op, size, signed)
		}
	}
}

// P62: sums of 32 bits; a jump keeps the highest four of the place behind it.
func TestTarget(t *testing.T) {
	for _, c := range []struct {
		op            int
		imm, pc, want uint32
	}{
		{api.IBeq, 5, 64, 88}, {api.IBne, 0, 64, 68}, {api.IBlez, 65535, 64, 64}, {api.IBgtz, 32768, 0, 1<<32 - 131068}, {api.IBeq, 32767, 1<<32 - 4, 131068},
		{api.IJ, 99, 64, 396}, {api.IJal, 1<<26 - 1, 0, 1<<28 - 4}, {api.IJ, 1, 0x1FFFFFF8, 0x10000004}, {api.IJal, 1, 0x1FFFFFFC, 0x20000004}, {api.IJ, 0, 1<<32 - 4, 0},
	} {
		if got := code.Target(api.Ins{Op: c.op, Imm: c.imm}, c.pc); got != c.want {
			t.Errorf("%v: %d", c, got)
		}
	}
}
