package plan_test

import (
	"fmt"
	"reflect"
	"slices"
	"testing"

	"changeling/api"
	"changeling/asm"
	"changeling/host"
	"changeling/ir"
	"changeling/opt"
	"changeling/plan"
	"changeling/ram"
	"changeling/region"
)

// codeOf ops at 64, of three instructions.
func codeOf(ops ...api.Op) ir.Code { return ir.Code{PC: 64, Many: 3, Ops: ops} }

// made is the plan of a code, of which all holds that can be told without a run.
func made(t *testing.T, c ir.Code) plan.Plan {
	t.Helper()
	was := slices.Clone(c.Ops)
	p, err := plan.Make(c)
	if err != nil || plan.Check(p) != nil || p.PC != c.PC || p.Many != c.Many || len(p.Rows) > len(c.Ops) {
		t.Fatalf("%+v: %+v, %v, %v", c, p, err, plan.Check(p))
	}
	if !slices.Equal(c.Ops, was) {
		t.Fatalf("%+v: it has changed", c)
	}
	if got, want := sorted(slices.Concat(p.Rows...)), sorted(c.Ops); !slices.Equal(got, want) {
		t.Fatalf("%v: other ops: %v", want, got)
	}
	for n := 1; n < len(p.Rows); n++ {
		if couldBeOne(p.Rows[n-1], p.Rows[n]) {
			t.Fatalf("rows %d and %d could be one: %+v", n-1, n, p.Rows)
		}
	}
	return p
}

// sorted ops, told as texts.
func sorted(ops []api.Op) []string {
	var l []string
	for _, o := range ops {
		l = append(l, fmt.Sprintf("%+v", o))
	}
	slices.Sort(l)
	return l
}

// sameEnd holds a run of a plan, worked out apart and by a host, against one of its code, and tells whether they trap.
func sameEnd(t *testing.T, c ir.Code, p plan.Plan, s api.State, r *ram.Ram) bool {
	t.Helper()
	trap, left, words := runApart(p, s, r)
	was, hosted, memory := s, s, r.Copy()
	end, err := host.Run(p, &hosted, memory)
	if err != nil || end.Trap != trap || hosted != left || !slices.Equal(words, memory.Words()) {
		t.Fatalf("%+v\nfrom %+v\nends %v at %+v,\nby a host %+v, %v, at %+v", p.Rows, was, trap, left, end, err, hosted)
	}
	end, err = ir.Eval(c, &s, r)
	if err != nil || end.Trap != trap || s != left || !slices.Equal(words, r.Words()) {
		t.Fatalf("%+v\nas %+v\nfrom %+v\nends %v at %+v,\nnot %+v, %v, at %+v", c, p.Rows, was, trap, left, end, err, s)
	}
	return trap
}

// P101, P103: plans of any codes.
func TestPlansOfAnyCodes(t *testing.T) {
	next := numbers(2463534242)
	trapped, left, narrower := 0, 0, 0
	for range 6000 {
		c := anyCode(next)
		p := made(t, c)
		if len(p.Rows) < len(c.Ops) {
			narrower++
		}
		for range 3 {
			if sameEnd(t, c, p, anyState(next, c.PC), anyMemory(next)) {
				trapped++
			} else {
				left++
			}
		}
	}
	if trapped < 2000 || left < 6000 || narrower < 5000 {
		t.Errorf("too few: %d, %d, %d", trapped, left, narrower)
	}
}

// P101: all codes of three ops and an end, of some that meet in every way.
func TestPlansOfAllShortCodes(t *testing.T) {
	ops := row(set(1, 8), moved(1, 2), moved(2, 1), of("add", 3, 1, 2), of("quo", 1, 2, 3), of("rem", 3, 3, 1), overflow("over+", 1, 2), loaded(1, 0, 8), loaded(2, 1, 0), stored(0, 1, 8), stored(2, 3, 0), leaveIf(1), leaveIf(3), set(40, 5), moved(1, 40))
	next := numbers(88172645)
	var states []api.State
	for _, v := range [][3]uint32{{0, 0, 0}, {8, 12, 3}, {3, 8, 0}, {1<<31 - 1, 16, 7}} {
		s := anyState(next, 64)
		copy(s.R[1:], v[:])
		states = append(states, s)
	}
	for _, x := range ops {
		for _, y := range ops {
			for _, z := range ops {
				for _, end := range row(out(), outr(1)) {
					c := codeOf(x, y, z, end)
					p := made(t, c)
					for _, s := range states {
						sameEnd(t, c, p, s, ram.New([]uint32{1, 2, 12, 4, 16, 6}))
					}
				}
			}
		}
	}
}

// P101: what may stand in one row, and what may not.
func TestRowsOfPlans(t *testing.T) {
	for _, c := range []struct {
		name string
		ops  []api.Op
		want int
	}{
		{"an out", row(out()), 1},
		{"three that do not meet", row(set(1, 1), moved(2, 5), of("add", 3, 6, 7), out()), 1},
		{"four that do not meet", row(set(1, 1), set(2, 2), set(3, 3), set(4, 4), out()), 2},
		{"six that do not meet", row(set(1, 1), set(2, 2), set(3, 3), set(4, 4), set(5, 5), set(6, 6), out()), 2},
		{"three and a load", row(set(1, 1), set(2, 2), set(3, 3), loaded(4, 0, 0), out()), 2},
		{"two and a store", row(set(1, 1), set(2, 2), stored(0, 3, 0), out()), 1},
		{"one reads what one wrote", row(set(1, 1), moved(2, 1), out()), 2},
		{"one writes what one wrote", row(set(1, 1), set(1, 2), out()), 2},
		{"one writes what one read", row(moved(2, 1), set(1, 1), out()), 1},
		{"one writes what it read", row(of("add", 1, 1, 1), out()), 1},
		{"each reads what the other one writes", row(moved(5, 6), moved(6, 5), out()), 2},
		{"an out of a register that was written", row(set(1, 1), outr(1)), 2},
		{"an out of another register", row(set(1, 1), outr(2)), 1},
		{"one of Div reads what it writes", row(set(1, 1), of("quo", 1, 2, 3), out()), 2},
		{"two loads", row(loaded(1, 0, 0), loaded(2, 0, 4), out()), 2},
		{"a load and a store behind it", row(loaded(1, 0, 0), stored(0, 2, 0), out()), 2},
		{"an if and an out", row(leaveIf(1), out()), 2},
		{"an if behind others", row(set(2, 1), overflow("over+", 1, 1), leaveIf(1), out()), 2},
		{"ops around an if", row(set(1, 1), leaveIf(2), set(3, 1), out()), 2},
		{"an if of a register that was written", row(set(1, 1), leaveIf(1), out()), 3},
		{"checks and sums", row(overflow("over+", 1, 2), of("add", 3, 1, 2), overflow("over-", 4, 5), out()), 1},
		{"a chain with others beside it", row(set(1, 1), moved(2, 1), moved(3, 2), set(4, 1), set(5, 1), set(6, 1), set(7, 1), out()), 3},
	} {
		if p := made(t, codeOf(c.ops...)); len(p.Rows) != c.want {
			t.Errorf("%s: %d rows, not %d: %+v", c.name, len(p.Rows), c.want, p.Rows)
		}
	}
}

// P101: a store stands behind all loads ahead of it, also where the last of them found room ahead of another one, and ahead of all loads behind it.
func TestMemoryIsInOrder(t *testing.T) {
	late := row(set(1, 8), moved(2, 1), moved(3, 2))
	for _, more := range [][]api.Op{
		row(loaded(4, 3, 0), loaded(5, 0, 0), stored(0, 6, 8)), row(loaded(4, 3, 0), loaded(5, 0, 0), loaded(7, 0, 4), stored(0, 6, 8), loaded(9, 0, 8)), row(stored(3, 6, 0), loaded(5, 0, 8), stored(0, 7, 8), loaded(9, 0, 8)), row(loaded(4, 3, 0), stored(0, 6, 8), loaded(5, 0, 8), stored(3, 7, 0)),
		row(stored(3, 6, 0), stored(0, 7, 8), loaded(5, 0, 8)), row(loaded(4, 0, 8), stored(3, 6, 0), loaded(5, 0, 0), stored(0, 7, 8), api.Op{Kind: "load", D: 9, B: 1, Imm: 11}),
	} {
		c := codeOf(append(slices.Concat(late, more), out())...)
		s := api.State{PC: 64, Next: 68}
		s.R[6], s.R[7] = 0x01020304, 0x05060708
		if sameEnd(t, c, made(t, c), s, ram.New([]uint32{1, 2, 3, 4})) {
			t.Errorf("%+v traps", c)
		}
	}
}

// P101: the last row of a plan is well though the last op of its code finds no room.
func TestLastRows(t *testing.T) {
	for _, ahead := range [][]api.Op{
		row(set(1, 1), set(2, 2), set(3, 3), loaded(4, 0, 0)), row(set(1, 1), set(2, 2), set(3, 3), stored(0, 1, 0)), row(leaveIf(1)), row(set(1, 1), leaveIf(2)), row(leaveIf(1), leaveIf(2), leaveIf(3)), row(set(1, 1), set(2, 2), loaded(3, 0, 0), leaveIf(4)),
	} {
		for _, end := range row(out(), outr(0), outr(1), outr(3), outr(5)) {
			p := made(t, codeOf(append(slices.Clone(ahead), end)...))
			if last := p.Rows[len(p.Rows)-1]; !slices.Contains(last, end) {
				t.Errorf("%+v", p)
			}
		}
	}
}

// P101: codes of as many ops as there may be.
func TestPlansOfTheLongestCodes(t *testing.T) {
	kinds := map[string]func(n int) api.Op{
		"sets of one register": func(n int) api.Op { return set(1, uint32(n)) },
		"sets of many":         func(n int) api.Op { return set(1+n%63, uint32(n)) },
		"a chain":              func(n int) api.Op { return of("add", 1, 1, 2) },
		"loads":                func(n int) api.Op { return loaded(1+n%20, 0, uint32(4*n)) },
		"ifs":                  func(n int) api.Op { return leaveIf(40 + n%20) },
		"checks":               func(n int) api.Op { return overflow("over-", n%32, n%32) },
		"all":                  func(n int) api.Op { return row(set(40, 1), leaveIf(50), loaded(41, 0, 0), moved(42, 41))[n%4] },
	}
	many := map[string]int{"sets of one register": 199, "sets of many": 67, "a chain": 199, "loads": 199, "ifs": 200, "checks": 67}
	next := numbers(7)
	for name, op := range kinds {
		var ops []api.Op
		for n := range api.MaxOps - 1 {
			ops = append(ops, op(n))
		}
		c := codeOf(append(ops, out())...)
		p := made(t, c)
		if want := many[name]; want > 0 && len(p.Rows) != want {
			t.Errorf("%s: %d rows", name, len(p.Rows))
		}
		sameEnd(t, c, p, anyState(next, 64), ram.New([]uint32{3}))
	}
}

// P101: of programs, as regions are made codes and better codes.
func TestPlansOfRegions(t *testing.T) {
	words, err := asm.Assemble([]string{
		"addiu $1, $1, -1", "add $2, $2, $1", "lw $3, 0($4)", "addu $5, $3, $2", "sw $5, 4($4)", "lb $6, 7($4)", "div $5, $6", "mflo $7", "mfhi $8", "sb $7, 3($4)", "lhu $9, 2($4)", "slt $10, $9, $8", "sll $11, $10, 3", "bne $1, $0, -14", "addi $4, $4, 8",
	}, 64)
	if err != nil {
		t.Fatal(err)
	}
	next := numbers(99)
	for most := 1; most <= 15; most++ {
		r, err := region.Form(ram.New(append(make([]uint32, 16), words...)), 64, most)
		if err != nil {
			t.Fatal(err)
		}
		c, err := ir.Lower(r)
		if err != nil {
			t.Fatal(err)
		}
		for level := range 3 {
			better, err := opt.Opt(c, level)
			if err != nil {
				t.Fatal(err)
			}
			p := made(t, better)
			for range 40 {
				s := anyState(next, 64)
				s.R[4] = next() % 64 * 4
				sameEnd(t, better, p, s, anyMemory(next))
			}
		}
	}
}

// P101, P3: ir.Check's errors, with their places, and no plan.
func TestErrorsOfMake(t *testing.T) {
	for _, c := range []ir.Code{
		{}, {Many: 1}, {Many: 25, Ops: row(out())}, {Many: -1, Ops: row(out())}, codeOf(), codeOf(set(1, 1)), codeOf(leaveIf(1)), codeOf(out(), out()), codeOf(set(1, 1), outr(1), set(1, 1), out()), codeOf(set(0, 1), out()), codeOf(set(1, 1), set(64, 1), out()), codeOf(api.Op{Kind: "what"}, out()),
		codeOf(set(1, 1), of("add", 1, -1, 2), out()), codeOf(api.Op{Kind: "set", D: 1, At: 2}, set(1, 1), out()), codeOf(api.Op{Kind: "out", At: 3}), codeOf(api.Op{Kind: "out", A: 3}), codeOf(append(slices.Repeat(row(set(1, 1)), 200), out())...), codeOf(append(slices.Repeat(row(stored(0, 0, 0)), 9), out())...), codeOf(of("load", 1, 1, 3), out()), codeOf(api.Op{Kind: "store", D: -1}, out()),
	} {
		p, err := plan.Make(c)
		want := ir.Check(c)
		if want == nil || !reflect.DeepEqual(err, want) || p.PC != 0 || p.Many != 0 || len(p.Rows) != 0 {
			t.Errorf("%+v: %+v, %v, not %v", c, p, err, want)
		}
	}
}

// P4, P2: a plan is new memory, and its rows share none; the same code has the same plan.
func TestMakeGivesNewMemory(t *testing.T) {
	long := row(set(1, 1), set(2, 2), moved(3, 1), stored(0, 3, 4), out(), out())
	c := codeOf(long[:5]...)
	first := made(t, c)
	was := fmt.Sprintf("%+v", first)
	second := made(t, c)
	for n := range second.Rows {
		whole := second.Rows[n][:cap(second.Rows[n])]
		for i := range whole {
			whole[i] = api.Op{Kind: "what", At: n}
		}
		for i, l := range second.Rows {
			for _, o := range l {
				if i > n && o.Kind == "what" {
					t.Fatalf("rows %d and %d share memory", n, i)
				}
			}
		}
	}
	if got := fmt.Sprintf("%+v", made(t, c)); got != was || fmt.Sprintf("%+v", first) != was {
		t.Errorf("%s, not %s", got, was)
	}
	long[0] = api.Op{}
	if fmt.Sprintf("%+v", first) != was || long[5] != out() {
		t.Error("a plan hangs on what its code was made of")
	}
}
