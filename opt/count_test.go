package opt_test

import (
	"fmt"
	"math"
	"slices"
	"testing"

	"changeling/api"
	"changeling/ir"
	"changeling/opt"
)

// codeOf ops at 64, of three instructions, with an out to 200 behind them.
func codeOf(ops ...api.Op) ir.Code {
	return ir.Code{PC: 64, Many: 3, Ops: append(slices.Clone(ops), api.Op{Kind: "out", Imm: 200, At: 2})}
}

func set(d int, imm uint32) api.Op          { return api.Op{Kind: "set", D: d, Imm: imm} }
func moved(d, a int) api.Op                 { return api.Op{Kind: "copy", D: d, A: a} }
func of(kind string, d, a, b int) api.Op    { return api.Op{Kind: kind, D: d, A: a, B: b} }
func leaveIf(a int) api.Op                  { return api.Op{Kind: "if", A: a, Imm: 400} }
func loaded(d, a int, imm uint32) api.Op    { return api.Op{Kind: "load", D: d, A: a, B: 4, Imm: imm} }
func stored(a, b int, imm uint32) api.Op    { return api.Op{Kind: "store", D: 4, A: a, B: b, Imm: imm} }
func overflow(kind string, a, b int) api.Op { return api.Op{Kind: kind, A: a, B: b} }

// P91
func TestRegistersOfEveryKind(t *testing.T) {
	for _, r := range rows() {
		for _, o := range []api.Op{{Kind: r.kind, D: 5, A: 6, B: 7, Imm: 8, At: 9}, {Kind: r.kind, D: 4, A: 4, B: 4}, {Kind: r.kind, D: 2}, {Kind: r.kind}, {Kind: r.kind, D: 63, A: 33, B: 32}, {Kind: r.kind, D: 1, A: 2, B: -2}} {
			if got, want := opt.Reads(o), readsOf(o); !slices.Equal(got, want) {
				t.Errorf("%+v reads %v, not %v", o, got, want)
			}
			want := 0
			if r.writes {
				want = o.D
			}
			if got := opt.Writes(o); got != want {
				t.Errorf("%+v writes %d, not %d", o, got, want)
			}
		}
	}
	for _, c := range []struct {
		o      api.Op
		reads  string
		writes int
	}{
		{of("add", 5, 6, 6), "[6 6]", 5}, {of("add", 5, 0, 0), "[0 0]", 5}, {of("quou", 5, 5, 5), "[5 5 5]", 5}, {of("rem", api.Lo, 1, 2), "[1 2 33]", api.Lo},
		{loaded(5, 6, 7), "[6]", 5}, {stored(6, 7, 8), "[6 7]", 0}, {stored(0, 0, 8), "[0 0]", 0}, {leaveIf(0), "[0]", 0}, {api.Op{Kind: "outr", A: 31}, "[31]", 0}, {api.Op{Kind: "out", Imm: 31}, "[]", 0},
	} {
		if got := fmt.Sprint(opt.Reads(c.o)); got != c.reads || opt.Writes(c.o) != c.writes {
			t.Errorf("%+v: %s, %d", c.o, got, opt.Writes(c.o))
		}
	}
}

// P91, P1: what is no kind has no registers, and no number is too great to be asked for.
func TestRegistersOfWhatIsNoOp(t *testing.T) {
	for _, kind := range []string{"", "Set", "add ", "addu", "div", "over", "load4", "out\x00", "\xFF"} {
		if o := of(kind, 5, 6, 7); len(opt.Reads(o)) != 0 || opt.Writes(o) != 0 {
			t.Errorf("%q: %v, %d", kind, opt.Reads(o), opt.Writes(o))
		}
	}
	for _, r := range rows() {
		for _, n := range []int{-1, 64, math.MinInt, math.MaxInt} {
			o := api.Op{Kind: r.kind, D: n, A: n, B: n, At: n}
			if !slices.Equal(opt.Reads(o), readsOf(o)) {
				t.Errorf("%+v: %v", o, opt.Reads(o))
			}
			opt.Writes(o)
		}
	}
}

// counts holds how many ops of a code are KNOWN, and DEAD.
func counts(t *testing.T, c ir.Code, known, dead int) {
	t.Helper()
	was := slices.Clone(c.Ops)
	if k, d := opt.Known(c), opt.Dead(c); k != known || d != dead {
		t.Errorf("%+v: %d known, %d dead, not %d and %d", c.Ops, k, d, known, dead)
	}
	if !slices.Equal(c.Ops, was) {
		t.Errorf("its ops have changed: %v, not %v", c.Ops, was)
	}
}

// P90, P91
func TestKnownOps(t *testing.T) {
	for _, kind := range folds() {
		counts(t, codeOf(of(kind, 1, 0, 0)), 1, 0)
		counts(t, codeOf(set(2, 7), set(3, 8), of(kind, 1, 2, 3)), 1, 0)
		counts(t, codeOf(set(2, 7), of(kind, 1, 2, 0), of(kind, 4, 0, 2)), 2, 0)
		counts(t, codeOf(set(2, 7), of(kind, 1, 2, 3)), 0, 0)
		counts(t, codeOf(set(3, 7), of(kind, 1, 2, 3)), 0, 0)
		counts(t, codeOf(set(2, 7), of(kind, 2, 2, 2)), 1, 0)
		counts(t, codeOf(of(kind, 2, 0, 0), of(kind, 1, 2, 2)), 1, 0)
		counts(t, codeOf(of(kind, 1, 2, 2), set(2, 7)), 0, 0)
	}
	for _, kind := range fourOfDiv() {
		counts(t, codeOf(set(2, 7), set(3, 8), of(kind, 1, 2, 3)), 0, 0)
		counts(t, codeOf(set(1, 7), of(kind, 1, 1, 1), of("add", 2, 1, 0)), 0, 0)
	}
	for _, o := range []api.Op{moved(2, 3), moved(2, 0), moved(2, 2), loaded(2, 0, 0)} {
		c := codeOf(set(2, 7), o, of("add", 1, 2, 2))
		counts(t, c, 0, deadOps(c.Ops))
	}
	for _, o := range []api.Op{leaveIf(5), overflow("over-", 2, 2), stored(0, 2, 0), set(4, 1), loaded(4, 2, 1), moved(4, 2)} {
		counts(t, codeOf(set(2, 7), o, of("add", 1, 2, 2)), 1, 0)
	}
	counts(t, codeOf(of("add", 1, 40, 40)), 0, 0)
	counts(t, codeOf(set(2, 1), overflow("over+", 2, 2), loaded(3, 2, 3), stored(2, 2, 3), leaveIf(2), moved(4, 2)), 0, 0)
}

// P90, P91: nobody reads register d of the first op here; 9 to 12 are read or written by others.
func TestDeadOps(t *testing.T) {
	writers := []api.Op{set(5, 1), moved(5, 6)}
	for _, kind := range slices.Concat(folds(), fourOfDiv()) {
		writers = append(writers, of(kind, 5, 6, 7))
	}
	for _, o := range writers {
		for _, d := range []int{1, 8, 31, api.Hi, api.Lo} {
			o.D = d
			counts(t, codeOf(o), 0, 0)
			for _, by := range []api.Op{set(d, 2), moved(d, 9), loaded(d, 0, 0), of("xor", d, 9, 10)} {
				counts(t, codeOf(o, by), 0, 1)
				counts(t, codeOf(o, stored(0, 11, 0), loaded(12, 0, 0), overflow("over+", 11, 11), by), 0, 1)
				counts(t, codeOf(o, leaveIf(0), by), 0, 0)
				counts(t, codeOf(leaveIf(0), o, by, leaveIf(0)), 0, 1)
			}
		}
		for _, d := range []int{api.Lo + 1, api.Lo + 2, api.Temps - 1} {
			o.D = d
			counts(t, codeOf(o), 0, 1)
			counts(t, codeOf(o, leaveIf(0)), 0, 1)
			counts(t, codeOf(o, loaded(d, 0, 0)), 0, 1)
			counts(t, codeOf(o, leaveIf(0), loaded(d, 0, 0)), 0, 1)
			for _, by := range []api.Op{set(d, 2), moved(d, 9), of("xor", d, 9, 10)} {
				counts(t, codeOf(o, by), 0, 2)
				counts(t, codeOf(o, leaveIf(0), by), 0, 2)
				counts(t, codeOf(o, by, leaveIf(d)), 0, 1)
			}
		}
	}
}

// P90, P91: whoever reads it, be it what writes it next, keeps an op.
func TestOpsThatAreRead(t *testing.T) {
	for _, d := range []int{1, 31, api.Hi, api.Lo, api.Lo + 1, api.Temps - 1} {
		for _, o := range []api.Op{moved(d, d), of("add", d, d, 9), of("add", d, 9, d), of("quo", d, 9, 10), of("remu", d, 9, 10), loaded(d, d, 0)} {
			still := 0
			if d > api.Lo && o.Kind != "load" {
				still = 1
			}
			counts(t, codeOf(set(d, 2), o), 0, still)
		}
		for _, o := range []api.Op{overflow("over+", d, 9), overflow("over-", 9, d), leaveIf(d), stored(d, 9, 0), stored(9, d, 0), loaded(9, d, 0), moved(9, d), of("slt", 9, d, 10)} {
			counts(t, codeOf(set(d, 2), o, loaded(d, 0, 0)), 0, 0)
		}
		counts(t, ir.Code{Many: 1, Ops: []api.Op{set(d, 2), {Kind: "outr", A: d}}}, 0, 0)
		counts(t, codeOf(loaded(d, 0, 0), loaded(d, 0, 0)), 0, 0)
	}
	counts(t, codeOf(set(40, 1), of("add", 41, 40, 9)), 0, 1)
	counts(t, codeOf(set(40, 1), of("rem", 40, 9, 10)), 0, 1)
}

// P90, P91: any codes have as many as are counted one by one.
func TestCountsOfAnyCode(t *testing.T) {
	next := numbers(88172645)
	known, dead := 0, 0
	for range 4000 {
		c := anyCode(next)
		if err := ir.Check(c); err != nil {
			t.Fatal(err, c)
		}
		k, d := knownOps(c.Ops), deadOps(c.Ops)
		counts(t, c, k, d)
		known, dead = known+k, dead+d
	}
	if known < 1000 || dead < 1000 {
		t.Errorf("too few: %d known, %d dead", known, dead)
	}
}

// wrongCode is not well, with its error and place; -1: bare.
type wrongCode struct {
	c   ir.Code
	at  int
	err error
}

func wrongCodes() []wrongCode {
	sum, dead, out := of("add", 1, 0, 0), set(40, 1), api.Op{Kind: "out"}
	with := func(ops ...api.Op) ir.Code {
		return ir.Code{Many: 2, Ops: slices.Concat([]api.Op{sum, dead}, ops, []api.Op{out})}
	}
	return []wrongCode{
		{ir.Code{}, -1, api.ErrBound}, {ir.Code{Many: 25, Ops: []api.Op{sum, dead, out}}, -1, api.ErrBound}, {ir.Code{Many: -1, Ops: []api.Op{sum, dead, out}}, -1, api.ErrBound},
		{with(slices.Repeat([]api.Op{dead}, 198)...), -1, api.ErrFull}, {with(slices.Repeat([]api.Op{stored(0, 0, 0)}, 9)...), -1, api.ErrFull},
		{ir.Code{Many: 1}, -1, api.ErrShape}, {ir.Code{Many: 1, Ops: []api.Op{sum, dead}}, -1, api.ErrShape},
		{with(of("what", 0, 0, 0)), 2, api.ErrKind}, {with(of("add", 0, 1, 2)), 2, api.ErrBound}, {with(of("add", 64, 1, 2)), 2, api.ErrBound}, {with(sum, moved(1, -1)), 3, api.ErrBound}, {with(of("load", 1, 1, 3)), 2, api.ErrBound}, {with(api.Op{Kind: "set", D: 1, At: 2}), 2, api.ErrBound},
		{with(of("set", 1, 2, 0)), 2, api.ErrShape}, {with(out), 2, api.ErrShape}, {with(api.Op{Kind: "set", D: 1, At: 1}), 3, api.ErrShape}, {with(of("add", math.MinInt, math.MaxInt, -1)), 2, api.ErrBound},
	}
}

// P91: of what is not well there are none.
func TestCountsOfWhatIsNotWell(t *testing.T) {
	for _, w := range wrongCodes() {
		counts(t, w.c, 0, 0)
	}
}
