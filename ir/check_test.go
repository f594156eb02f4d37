package ir_test

import (
	"errors"
	"fmt"
	"math"
	"slices"
	"testing"

	"changeling/api"
	"changeling/ir"
)

// row of the document's table of kinds: what its fields are: w: a register that is written, r: one that is read, l, s: bytes of a load, of a store, -: it has none.
type row struct {
	kind    string
	d, a, b byte
	imm     bool
}

func rows() []row {
	l := []row{
		{"set", 'w', '-', '-', true}, {"copy", 'w', 'r', '-', false}, {"over+", '-', 'r', 'r', false}, {"over-", '-', 'r', 'r', false},
		{"load", 'w', 'r', 'l', true}, {"store", 's', 'r', 'r', true}, {"if", '-', 'r', '-', true}, {"out", '-', '-', '-', true}, {"outr", '-', 'r', '-', false},
	}
	for _, kind := range []string{"add", "sub", "and", "or", "xor", "nor", "slt", "sltu", "shl", "shr", "sar", "mul", "mulh", "mulhu", "quo", "rem", "quou", "remu"} {
		l = append(l, row{kind, 'w', 'r', 'r', false})
	}
	return l
}

// sample op that is well.
func (r row) sample() api.Op {
	number := map[byte]int{'w': 5, 'r': 6, 'l': -2, 's': 2, '-': 0}
	o := api.Op{Kind: r.kind, D: number[r.d], A: number[r.a], B: number[r.b], At: 1}
	if r.imm {
		o.Imm = 300
	}
	return o
}

// judge a field's number.
func judge(role byte, n int) error {
	switch role {
	case 'w', 'r':
		if n < 0 || n > 63 || n == 0 && role == 'w' {
			return api.ErrBound
		}
	case 'l', 's':
		if !slices.Contains([]int{1, 2, 4}, n) && (role == 's' || n != -1 && n != -2) {
			return api.ErrBound
		}
	case '-':
		if n != 0 {
			return api.ErrShape
		}
	}
	return nil
}

// around an op a code of three instructions that is well, if the op is, and the op's number.
func around(o api.Op) (ir.Code, int) {
	ops := []api.Op{{Kind: "set", D: 1, At: 1}, {Kind: "add", D: 2, A: 1, B: 1, At: 1}, o}
	if o.Kind != "out" && o.Kind != "outr" {
		ops = append(ops, api.Op{Kind: "out", At: 2})
	}
	return ir.Code{PC: 64, Many: 3, Ops: ops}, 2
}

// checks holds the error of a code against what it should be, with its place; -1: bare.
func checks(t *testing.T, name string, c ir.Code, at int, want error) {
	t.Helper()
	was := slices.Clone(c.Ops)
	err := ir.Check(c)
	var fault *api.Fault
	placed := errors.As(err, &fault)
	switch {
	case want == nil || at < 0:
		if err != want {
			t.Errorf("%s: %v, not %v", name, err, want)
		}
	case !placed || fault.At != at || fault.Err != want:
		t.Errorf("%s: %#v, not %v at %d", name, err, want, at)
	}
	if !slices.Equal(c.Ops, was) {
		t.Errorf("%s: its ops have changed", name)
	}
}

// P80, P81
func TestFieldsOfEveryKind(t *testing.T) {
	numbers := []int{math.MinInt, math.MaxInt, math.MinInt32, 1 << 32, 1<<32 + 4, 1<<32 + 1}
	for n := -70; n <= 140; n++ {
		numbers = append(numbers, n)
	}
	for _, r := range rows() {
		c, at := around(r.sample())
		checks(t, r.kind, c, at, nil)
		for _, n := range numbers {
			for field, role := range map[string]byte{"D": r.d, "A": r.a, "B": r.b} {
				o := r.sample()
				*map[string]*int{"D": &o.D, "A": &o.A, "B": &o.B}[field] = n
				c, at := around(o)
				checks(t, fmt.Sprint(r.kind, field, n), c, at, judge(role, n))
			}
		}
		for _, imm := range []uint32{0, 1, 1 << 31, math.MaxUint32} {
			o := r.sample()
			o.Imm = imm
			c, at := around(o)
			var want error
			if imm != 0 && !r.imm {
				want = api.ErrShape
			}
			checks(t, fmt.Sprint(r.kind, "Imm", imm), c, at, want)
		}
	}
}

// P81: one op alone has the error that it has in a code, bare.
func TestOneOpAlone(t *testing.T) {
	for _, r := range rows() {
		for n := -3; n <= 66; n++ {
			for _, o := range []api.Op{{Kind: r.kind, D: n, A: 1, B: 1, At: 1}, {Kind: r.kind, D: 1, A: n, B: 1, At: 1}, {Kind: r.kind, D: 1, A: 1, B: n, At: 1}, {Kind: r.kind, D: 1, A: 1, B: 1, Imm: 4, At: n}} {
				c, at := around(o)
				want := ir.CheckOp(o, 3)
				if want == nil && o.At == 0 {
					want = api.ErrShape // the ops ahead of it are at 1
				}
				checks(t, fmt.Sprint(o), c, at, want)
			}
		}
	}
}

// P80: which fields are registers.
func TestRegistersOfEveryKind(t *testing.T) {
	for _, r := range append(rows(), row{kind: "", d: '-', a: '-', b: '-'}, row{kind: "what", d: '-', a: '-', b: '-'}) {
		if d, a, b := ir.Registers(r.kind); d != (r.d == 'w') || a != (r.a == 'r') || b != (r.b == 'r') {
			t.Errorf("%q: %v, %v, %v", r.kind, d, a, b)
		}
	}
}

// P81: a number is ahead of a field that it has not.
func TestBoundIsAheadOfShape(t *testing.T) {
	for _, o := range []api.Op{
		{Kind: "set", D: 0, A: 1, At: 1}, {Kind: "set", D: 64, B: 1, At: 1}, {Kind: "copy", D: 1, A: 64, B: 9, At: 1}, {Kind: "add", D: 1, B: -1, Imm: 7, At: 1},
		{Kind: "over+", D: 3, A: 1, B: 64, At: 1}, {Kind: "if", A: -1, B: 2, At: 1}, {Kind: "if", A: 1, B: 2, At: 3}, {Kind: "if", D: 2, A: 1, At: -1},
		{Kind: "out", A: 1, At: 3}, {Kind: "outr", A: 64, Imm: 4, At: 2}, {Kind: "set", D: 0}, {Kind: "copy", D: 1, A: 64},
	} {
		c, at := around(o)
		checks(t, fmt.Sprint(o), c, at, api.ErrBound)
	}
}

// P81: what is no kind is told ahead of all else of its op.
func TestNoKind(t *testing.T) {
	for _, kind := range []string{"", "Set", "set ", " add", "addu", "over", "over*", "div", "divu", "mulu", "st", "stor", "loads", "jump", "OUT", "out\x00", "if\n", "not", "trap", "\xFF"} {
		for _, o := range []api.Op{{Kind: kind, At: 1}, {Kind: kind, D: 64, A: -1, B: 99, Imm: 5, At: 7}, {Kind: kind, D: 1, A: 1, B: 1}} {
			c, at := around(o)
			checks(t, fmt.Sprintf("%q", kind), c, at, api.ErrKind)
			c.Ops[len(c.Ops)-1] = o
			checks(t, fmt.Sprintf("%q as the last one", kind), c, -1, api.ErrShape)
		}
	}
}

// P81
func TestManyOfACode(t *testing.T) {
	for _, many := range []int{1, 2, 23, 24} {
		checks(t, fmt.Sprint(many), ir.Code{Many: many, Ops: []api.Op{{Kind: "out"}}}, -1, nil)
		checks(t, fmt.Sprint(many, " with the last At"), ir.Code{Many: many, Ops: []api.Op{{Kind: "out", At: many - 1}}}, -1, nil)
		for _, at := range []int{many, many + 1, -1, math.MinInt, math.MaxInt} {
			checks(t, fmt.Sprint(many, " with At ", at), ir.Code{Many: many, Ops: []api.Op{{Kind: "out", At: at}}}, 0, api.ErrBound)
		}
	}
	for _, many := range []int{0, -1, 25, 26, math.MinInt, math.MaxInt, 1<<32 + 1} {
		for _, ops := range [][]api.Op{nil, {{Kind: "out"}}, {{Kind: "what"}}, make([]api.Op, 201), slices.Repeat([]api.Op{{Kind: "store", D: 1}}, 9)} {
			checks(t, fmt.Sprint(many, len(ops)), ir.Code{Many: many, Ops: ops}, -1, api.ErrBound)
		}
	}
}

// P81: how many ops and stores there may be, well or not; that is told ahead of the last op.
func TestACodeThatIsFull(t *testing.T) {
	out := api.Op{Kind: "out"}
	set, store := api.Op{Kind: "set", D: 1}, api.Op{Kind: "store", D: 4}
	list := func(sets, stores int, last ...api.Op) ir.Code {
		return ir.Code{Many: 1, Ops: slices.Concat(slices.Repeat([]api.Op{store}, stores), slices.Repeat([]api.Op{set}, sets), last)}
	}
	checks(t, "200", list(199, 0, out), -1, nil)
	checks(t, "201", list(200, 0, out), -1, api.ErrFull)
	checks(t, "201 without an out", list(201, 0), -1, api.ErrFull)
	checks(t, "201 of no kind", ir.Code{Many: 1, Ops: make([]api.Op, 201)}, -1, api.ErrFull)
	checks(t, "200 of no kind", ir.Code{Many: 1, Ops: make([]api.Op, 200)}, -1, api.ErrShape)
	checks(t, "8 stores", list(3, 8, out), -1, nil)
	checks(t, "200 with 8 stores", list(191, 8, out), -1, nil)
	checks(t, "9 stores", list(3, 9, out), -1, api.ErrFull)
	checks(t, "9 stores without an out", list(0, 9), -1, api.ErrFull)
	store.D, store.Imm = -7, 9
	checks(t, "9 stores that are not well", list(3, 9, out), -1, api.ErrFull)
	checks(t, "8 stores that are not well", list(3, 8, out), 0, api.ErrBound)
}

// P81: the last op leaves, and no other one does, whatever registers have.
func TestTheLastOpLeaves(t *testing.T) {
	for _, r := range rows() {
		o := r.sample()
		o.At = 0
		var want error = api.ErrShape
		if r.kind == "out" || r.kind == "outr" {
			want = nil
		}
		checks(t, r.kind, ir.Code{Many: 1, Ops: []api.Op{o}}, -1, want)
		checks(t, r.kind+" behind a set", ir.Code{Many: 1, Ops: []api.Op{{Kind: "set", D: 1}, o}}, -1, want)
		checks(t, r.kind+" ahead of an out", ir.Code{Many: 1, Ops: []api.Op{{Kind: "set", D: 1}, o, {Kind: "out"}}}, 1, map[bool]error{true: api.ErrShape}[want == nil])
		checks(t, r.kind+" ahead of an outr", ir.Code{Many: 1, Ops: []api.Op{o, {Kind: "outr", A: 31}}}, 0, map[bool]error{true: api.ErrShape}[want == nil])
	}
	checks(t, "none", ir.Code{Many: 1}, -1, api.ErrShape)
	checks(t, "an empty list", ir.Code{Many: 1, Ops: []api.Op{}}, -1, api.ErrShape)
	ops := []api.Op{{Kind: "set", D: 1}, {Kind: "out"}}
	checks(t, "behind the list's length", ir.Code{Many: 1, Ops: ops[:1]}, -1, api.ErrShape)
}

// P81
func TestInstructionsOfOpsDoNotFall(t *testing.T) {
	for _, c := range []struct {
		ats []int
		at  int
	}{
		{[]int{0, 0, 0, 0}, -1}, {[]int{0, 1, 2, 3}, -1}, {[]int{0, 0, 3, 3}, -1}, {[]int{3, 3, 3, 3}, -1}, {[]int{2, 2, 2, 3}, -1},
		{[]int{1, 0, 0, 0}, 1}, {[]int{0, 2, 1, 3}, 2}, {[]int{0, 1, 2, 1}, 3}, {[]int{3, 2, 1, 0}, 1}, {[]int{0, 3, 3, 2}, 3}, {[]int{2, 3, 2, 2}, 2},
	} {
		ops := []api.Op{{Kind: "set", D: 1}, {Kind: "if", A: 1}, {Kind: "store", D: 1}, {Kind: "out"}}
		for n := range ops {
			ops[n].At = c.ats[n]
		}
		var want error
		if c.at >= 0 {
			want = api.ErrShape
		}
		checks(t, fmt.Sprint(c.ats), ir.Code{Many: 4, Ops: ops}, c.at, want)
	}
}

// P81, P3
func TestTheFirstOpThatIsNotWellIsTold(t *testing.T) {
	well := api.Op{Kind: "copy", D: 40, A: 63}
	wrong := []struct {
		o   api.Op
		err error
	}{
		{api.Op{Kind: "what"}, api.ErrKind}, {api.Op{Kind: "set"}, api.ErrBound}, {api.Op{Kind: "set", D: 1, A: 1}, api.ErrShape}, {api.Op{Kind: "out"}, api.ErrShape}, {api.Op{Kind: "load", D: 1, B: 3}, api.ErrBound},
	}
	for _, first := range wrong {
		for _, second := range wrong {
			for n := range 4 {
				ops := slices.Repeat([]api.Op{well}, n)
				ops = append(ops, first.o, well, second.o, api.Op{Kind: "out"})
				checks(t, fmt.Sprint(first.o, second.o), ir.Code{Many: 1, Ops: ops}, n, first.err)
			}
		}
	}
	checks(t, "the last one", ir.Code{Many: 1, Ops: []api.Op{well, {Kind: "out", A: 1}}}, 1, api.ErrShape)
}

// P81: PC may be any.
func TestPlaceOfACode(t *testing.T) {
	for _, pc := range []uint32{0, 1, 4, api.RamSize, api.Console, math.MaxUint32} {
		checks(t, fmt.Sprint(pc), ir.Code{PC: pc, Many: 1, Ops: []api.Op{{Kind: "out"}}}, -1, nil)
	}
}
