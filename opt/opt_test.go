package opt_test

import (
	"errors"
	"fmt"
	"math"
	"slices"
	"testing"

	"changeling/api"
	"changeling/asm"
	"changeling/ir"
	"changeling/opt"
	"changeling/ram"
	"changeling/region"
)

// bettered code: at every level it is as P90 has it, but for how it ends.
func bettered(t *testing.T, c ir.Code, level int) ir.Code {
	t.Helper()
	was := slices.Clone(c.Ops)
	x, err := opt.Opt(c, level)
	if err != nil || ir.Check(x) != nil || x.PC != c.PC || x.Many != c.Many || len(x.Ops) > len(c.Ops) {
		t.Fatalf("level %d: %+v, %v, %v\nof %+v", level, x, err, ir.Check(x), c)
	}
	if level == 0 && !slices.Equal(x.Ops, c.Ops) || level > 0 && knownOps(x.Ops) > 0 || level > 1 && deadOps(x.Ops) > 0 {
		t.Errorf("level %d: %+v\nof %+v", level, x.Ops, c.Ops)
	}
	if !slices.Equal(c.Ops, was) {
		t.Errorf("level %d: ops that were given have changed: %+v, not %+v", level, c.Ops, was)
	}
	return x
}

// sameEnd holds two codes against each other, from one state and memory on, and tells whether they trap.
func sameEnd(t *testing.T, c, x ir.Code, s api.State, r *ram.Ram) bool {
	t.Helper()
	other, copied := s, r.Copy()
	want, err := ir.Eval(c, &s, r)
	got, err2 := ir.Eval(x, &other, copied)
	if err != nil || err2 != nil || got.Trap != want.Trap || other != s || !slices.Equal(copied.Words(), r.Words()) {
		t.Errorf("%+v, %v, not %+v, %v\n got %+v\nwant %+v\n%+v\nof %+v", got, err2, want, err, other, s, x.Ops, c.Ops)
	}
	return want.Trap
}

// sameEnds at all levels, from some states and memories on: how many of them trap, and leave.
func sameEnds(t *testing.T, next func() uint32, c ir.Code) (trap, leave int) {
	t.Helper()
	for level := range 3 {
		x := bettered(t, c, level)
		for range 4 {
			if sameEnd(t, c, x, anyState(next, c.PC), anyMemory(next)) {
				trap++
			} else {
				leave++
			}
		}
	}
	return trap, leave
}

// P90: any codes.
func TestAnyCodeEndsAsItDid(t *testing.T) {
	next := numbers(521288629)
	traps, leaves := 0, 0
	for range 1500 {
		trap, leave := sameEnds(t, next, anyCode(next))
		traps, leaves = traps+trap, leaves+leave
		if t.Failed() {
			return
		}
	}
	if traps < 1000 || leaves < 1000 {
		t.Errorf("too few: %d traps, %d leave", traps, leaves)
	}
}

// P90: every kind of all edges, by what it is KNOWN to make.
func TestKnownOpsOfAllEdges(t *testing.T) {
	for _, kind := range slices.Concat(folds(), fourOfDiv()) {
		for _, a := range edges() {
			for _, b := range edges() {
				for _, d := range []int{5, 34, 35, 36} {
					c := codeOf(set(36, 9), set(34, a), set(35, b), of(kind, d, 34, 35), moved(api.Hi, d))
					for level := range 3 {
						sameEnd(t, c, bettered(t, c, level), api.State{PC: 64, Next: 68, Lo: 3}, ram.New(nil))
					}
				}
			}
		}
	}
}

// P90: what becomes KNOWN by another one is, too; what is read by DEAD ops alone is DEAD.
func TestOneHangsOnAnother(t *testing.T) {
	next := numbers(7)
	chain := []api.Op{set(40, 3)}
	for n := range 20 {
		chain = append(chain, of("add", 41+n, 40+n, 40+n))
	}
	for _, c := range []ir.Code{codeOf(chain...), codeOf(append(chain, moved(5, 60))...), codeOf(append(chain, of("sub", 5, 60, 6))...)} {
		sameEnds(t, next, c)
	}
	if x := bettered(t, codeOf(chain...), 2); len(x.Ops) != 1 {
		t.Errorf("%+v", x.Ops)
	}
	if x := bettered(t, codeOf(append(chain, of("sub", 5, 60, 6))...), 2); len(x.Ops) != 3 {
		t.Errorf("%+v", x.Ops)
	}
	dead := codeOf(moved(40, 5), of("quo", 40, 6, 7), of("rem", 40, 7, 6), of("add", 41, 40, 6), moved(42, 41))
	sameEnds(t, next, dead)
	if x := bettered(t, dead, 2); len(x.Ops) != 1 {
		t.Errorf("%+v", x.Ops)
	}
}

// P90: an if may leave with what the guest's registers have there.
func TestWhatAnIfTakesAlong(t *testing.T) {
	next := numbers(99)
	for _, d := range []int{1, 31, api.Hi, api.Lo, api.Lo + 1} {
		for _, o := range []api.Op{set(d, 77), moved(d, 9), of("add", d, 9, 10), of("add", d, 0, 0), of("quo", d, 9, 10)} {
			c := codeOf(o, leaveIf(9), set(d, 2), leaveIf(10), moved(d, 11))
			for level := range 3 {
				x := bettered(t, c, level)
				for _, to := range []int{9, 10, 11} {
					s := anyState(next, 64)
					s.R[9], s.R[10], s.R[11] = 0, 0, 0
					s.R[to] = 5
					sameEnd(t, c, x, s, ram.New(nil))
				}
			}
		}
	}
}

// P90: what traps still does, though nobody reads what it would have made; what traps not, does not.
func TestTrapsStay(t *testing.T) {
	ones := uint32(math.MaxUint32)
	for _, traps := range [][]api.Op{
		{loaded(40, 0, 2)}, {loaded(40, 0, api.RamSize)}, {loaded(5, 0, 2), set(5, 1)}, {set(40, ones), loaded(40, 40, 0)}, {set(40, 1), of("add", 40, 40, 40), loaded(41, 40, 0)},
		{set(5, 1), loaded(5, 0, api.Console), set(5, 2)}, {set(40, 1<<31-1), overflow("over+", 40, 40)}, {set(40, 1<<31), set(41, 1), of("add", 42, 40, 0), overflow("over-", 42, 41)}, {set(40, 7), stored(40, 0, 0)}, {stored(0, 0, 512)}, {set(40, 512), stored(40, 40, 4)},
	} {
		for level := range 3 {
			c := codeOf(append([]api.Op{stored(0, 5, 0), set(1, 8)}, traps...)...)
			r := ram.New(nil)
			r.Watch(2, true)
			if !sameEnd(t, c, bettered(t, c, level), api.State{PC: 64, Next: 68}, r) {
				t.Errorf("it does not trap: %+v", traps)
			}
		}
	}
	for _, stays := range [][]api.Op{{set(40, 1<<31-1), overflow("over+", 40, 0)}, {set(40, 4), loaded(40, 40, 4)}, {set(40, 4), stored(40, 40, 4)}, {set(40, 1<<31-1), of("add", 41, 40, 40)}, {of("quo", 5, 0, 0), of("remu", 40, 0, 0)}} {
		for level := range 3 {
			c := codeOf(stays...)
			if sameEnd(t, c, bettered(t, c, level), api.State{PC: 64, Next: 68}, ram.New(nil)) {
				t.Errorf("it traps: %+v", stays)
			}
		}
	}
}

// P90: memory that was stored into is not what was KNOWN ahead, and a register that nobody set is not what it was in another run.
func TestOnlySetsAreKnown(t *testing.T) {
	next := numbers(31)
	for _, c := range []ir.Code{
		codeOf(set(5, 1), loaded(5, 0, 0), of("add", 6, 5, 0)), codeOf(set(5, 1), moved(5, 7), of("add", 6, 5, 5)), codeOf(set(5, 1), of("sub", 5, 5, 7), of("add", 6, 5, 5)), codeOf(set(5, 1), of("quo", 5, 7, 8), of("add", 6, 5, 5)),
		codeOf(of("add", 6, 40, 40)), codeOf(of("add", 6, api.Hi, api.Lo)), codeOf(set(5, 1), moved(7, 5), set(5, 2), of("add", 6, 7, 5)), codeOf(set(5, 4), stored(0, 5, 8), loaded(5, 5, 4), of("add", 6, 5, 0)), codeOf(of("nor", 5, 0, 0), moved(5, 5), of("sub", 6, 5, 7)),
	} {
		sameEnds(t, next, c)
	}
}

// P90: as many ops as there may be, and as few.
func TestCodesOfAllSizes(t *testing.T) {
	next := numbers(64)
	sameEnds(t, next, codeOf())
	sameEnds(t, next, ir.Code{PC: 3, Many: 24, Ops: []api.Op{{Kind: "outr", A: 5, At: 23}}})
	for _, o := range []api.Op{set(40, 1), set(5, 1), of("add", 5, 0, 0), of("add", 5, 5, 5), of("quo", 40, 5, 6), loaded(40, 0, 0), leaveIf(40)} {
		sameEnds(t, next, codeOf(slices.Repeat([]api.Op{o}, api.MaxOps-1)...))
	}
	sameEnds(t, next, codeOf(slices.Repeat([]api.Op{stored(0, 5, 0), set(5, 9)}, api.Gate)...))
}

// P90, P83: codes of regions.
func TestCodesOfRegions(t *testing.T) {
	next := numbers(2026)
	for _, lines := range [][]string{
		{"lui $1, 1", "ori $1, $1, 8", "addiu $2, $1, 4", "subu $3, $2, $1"}, {"addi $1, $0, 32767", "sll $1, $1, 16", "addi $1, $1, 32767", "addi $1, $1, 32767"}, {"addiu $1, $0, 7", "addiu $2, $0, 3", "div $1, $2", "mflo $3", "mfhi $4", "div $1, $0"},
		{"addiu $1, $0, -7", "mult $1, $1", "mflo $3", "multu $1, $1", "mfhi $4"}, {"addiu $1, $0, 64", "sw $1, 0($1)", "lw $2, 64($0)", "lb $0, 3($1)", "sb $2, 1($1)"}, {"beq $0, $0, 5", "addiu $1, $0, 3"}, {"addiu $1, $0, 1", "bne $1, $0, -2", "addiu $1, $0, 0"},
		{"addiu $1, $1, 1", "slti $2, $1, 9", "bgtz $2, -3", "addiu $2, $0, 4"}, {"jal 5", "addiu $31, $31, 4"}, {"addiu $4, $0, 96", "jalr $4, $4", "addu $5, $4, $4"}, {"nor $1, $0, $0", "srav $2, $1, $1", "sltu $3, $0, $1", "add $4, $1, $1", "mthi $4", "mtlo $3", "mthi $0"},
	} {
		words, err := asm.Assemble(lines, 0)
		if err != nil {
			t.Fatal(lines, err)
		}
		r, err := region.Form(ram.New(words), 0, len(lines))
		if err != nil || len(r.Ins) != len(lines) {
			t.Fatal(lines, r, err)
		}
		c, err := ir.Lower(r)
		if err != nil {
			t.Fatal(lines, err)
		}
		for range 20 {
			sameEnds(t, next, c)
		}
	}
}

// P92
func TestOptOfOptIsNotLonger(t *testing.T) {
	next := numbers(1234567)
	for range 400 {
		c := anyCode(next)
		for level := range 3 {
			x := bettered(t, c, level)
			for again := range 3 {
				y := bettered(t, x, again)
				sameEnd(t, c, y, anyState(next, c.PC), anyMemory(next))
			}
		}
	}
}

// fails holds an error of Opt against what it should be, with its place; -1: bare.
func fails(t *testing.T, c ir.Code, level, at int, want error) {
	t.Helper()
	got, err := opt.Opt(c, level)
	var fault *api.Fault
	switch placed := errors.As(err, &fault); {
	case at < 0 && err != want:
		t.Errorf("level %d: %v, not %v: %+v", level, err, want, c)
	case at >= 0 && (!placed || fault.At != at || fault.Err != want):
		t.Errorf("level %d: %#v, not %v at %d: %+v", level, err, want, at, c)
	}
	if got.PC != 0 || got.Many != 0 || len(got.Ops) != 0 {
		t.Errorf("level %d: %+v beside %v", level, got, err)
	}
}

// P90, P3: Check's errors are ahead of a level's.
func TestErrorsOfOpt(t *testing.T) {
	levels := []int{-1, 3, 4, -2, math.MinInt, math.MaxInt, 1 << 32, 1<<32 + 1}
	for _, level := range levels {
		fails(t, codeOf(set(5, 1)), level, -1, api.ErrBound)
		fails(t, codeOf(), level, -1, api.ErrBound)
	}
	for _, w := range wrongCodes() {
		w.c.PC = 64
		for _, level := range append(levels, 0, 1, 2) {
			fails(t, w.c, level, w.at, w.err)
		}
	}
}

// P3, P4: a code is only read, up to its length; the answer is new memory.
func TestOptOnlyReads(t *testing.T) {
	ops := append(codeOf(set(5, 1), of("add", 6, 5, 5), set(40, 1), moved(5, 6)).Ops, api.Op{Kind: "behind"})
	was := slices.Clone(ops)
	c := ir.Code{PC: 64, Many: 3, Ops: ops[: len(ops)-1 : len(ops)]}
	for level := range 3 {
		x, y := bettered(t, c, level), bettered(t, c, level)
		want := slices.Clone(y.Ops)
		for n := range x.Ops[:cap(x.Ops)] {
			x.Ops[:cap(x.Ops)][n] = api.Op{Kind: "written over"}
		}
		if !slices.Equal(ops, was) || !slices.Equal(y.Ops, want) {
			t.Errorf("level %d: %v, %v", level, ops, y.Ops)
		}
		ops[0] = api.Op{Kind: "written over"}
		if !slices.Equal(y.Ops, want) {
			t.Errorf("level %d: a later change shows: %v", level, y.Ops)
		}
		ops[0] = was[0]
	}
	o := of("quo", 5, 6, 7)
	l := opt.Reads(o)
	l[0], l[2] = 9, 9
	if got := fmt.Sprint(opt.Reads(o)); got != "[6 7 5]" {
		t.Error(got)
	}
}
