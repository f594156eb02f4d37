package plan_test

import (
	"errors"
	"fmt"
	"math"
	"slices"
	"testing"

	"changeling/api"
	"changeling/ir"
	"changeling/plan"
)

func set(d int, imm uint32) api.Op          { return api.Op{Kind: "set", D: d, Imm: imm} }
func moved(d, a int) api.Op                 { return api.Op{Kind: "copy", D: d, A: a} }
func of(kind string, d, a, b int) api.Op    { return api.Op{Kind: kind, D: d, A: a, B: b} }
func leaveIf(a int) api.Op                  { return api.Op{Kind: "if", A: a, Imm: 400} }
func loaded(d, a int, imm uint32) api.Op    { return api.Op{Kind: "load", D: d, A: a, B: 4, Imm: imm} }
func stored(a, b int, imm uint32) api.Op    { return api.Op{Kind: "store", D: 4, A: a, B: b, Imm: imm} }
func overflow(kind string, a, b int) api.Op { return api.Op{Kind: kind, A: a, B: b} }
func out() api.Op                           { return api.Op{Kind: "out", Imm: 200} }
func outr(a int) api.Op                     { return api.Op{Kind: "outr", A: a} }

func row(l ...api.Op) []api.Op          { return l }
func rows(l ...[]api.Op) [][]api.Op     { return l }
func planOf(rows ...[]api.Op) plan.Plan { return plan.Plan{PC: 64, Many: 3, Rows: rows} }

// checks holds the error of a plan against what it should be, with its place; -1: bare.
func checks(t *testing.T, name string, p plan.Plan, at int, want error) {
	t.Helper()
	was := fmt.Sprint(p)
	err := plan.Check(p)
	var fault *api.Fault
	placed := errors.As(err, &fault)
	switch {
	case want == nil || at < 0:
		if err != want {
			t.Errorf("%s: %v, not %v", name, err, want)
		}
	case !placed || fault.At != at || fault.Err != want:
		t.Errorf("%s: %#v, not %v at %d", name, err, want, at)
	}
	if fmt.Sprint(p) != was {
		t.Errorf("%s: it has changed", name)
	}
}

// P100
func TestPlansThatAreWell(t *testing.T) {
	for n, p := range []plan.Plan{
		planOf(row(out())), planOf(row(outr(63))), planOf(row(set(1, 2), set(2, 3), set(3, 4), out())), planOf(row(set(1, 2), set(2, 3), loaded(3, 0, 0), outr(1))),
		planOf(row(set(1, 2), set(2, 3), moved(3, 1), loaded(4, 5, 6)), row(out())), planOf(row(leaveIf(1), stored(1, 2, 3), set(1, 4), set(2, 5)), row(out(), stored(0, 0, 0))),
		planOf(row(moved(1, 2), moved(2, 1)), row(out())), planOf(row(overflow("over+", 1, 2), overflow("over-", 1, 2), overflow("over+", 1, 2), out())),
		planOf(row(out(), set(1, 2))), planOf(row(set(4, 1), stored(0, 1, 0), out())), planOf(row(leaveIf(1)), row(leaveIf(1)), row(leaveIf(1)), row(outr(1))),
		planOf(row(api.Op{Kind: "set", D: 1, At: 2}), row(api.Op{Kind: "set", D: 1, At: 1}, api.Op{Kind: "out", At: 0})), planOf(row(set(1, 1)), row(set(1, 1)), row(set(1, 1), out())),
	} {
		checks(t, fmt.Sprint(n), p, -1, nil)
	}
}

// P100: bounds of the plan are told ahead of its rows, in order.
func TestBoundsOfAPlan(t *testing.T) {
	for _, many := range []int{1, 2, 23, 24} {
		checks(t, fmt.Sprint(many), plan.Plan{Many: many, Rows: rows(row(api.Op{Kind: "out", At: many - 1}))}, -1, nil)
		for _, at := range []int{many, many + 1, -1, math.MinInt, math.MaxInt} {
			checks(t, fmt.Sprint(many, " with At ", at), plan.Plan{Many: many, Rows: rows(row(set(1, 1)), row(set(1, 1), api.Op{Kind: "out", At: at}))}, 1, api.ErrBound)
		}
	}
	for _, many := range []int{0, -1, 25, 26, math.MinInt, math.MaxInt, 1<<32 + 1} {
		for _, l := range [][][]api.Op{nil, {}, {nil}, {{out()}}, make([][]api.Op, 201), slices.Repeat([][]api.Op{{stored(0, 0, 0)}}, 9)} {
			checks(t, fmt.Sprint(many, len(l)), plan.Plan{Many: many, Rows: l}, -1, api.ErrBound)
		}
	}
	for _, n := range []int{200, 201, 202, 1000} {
		l := slices.Repeat([][]api.Op{{set(1, 1)}}, n)
		l[n-1] = row(out())
		want := api.ErrFull
		if n == 200 {
			want = nil
		}
		checks(t, fmt.Sprint(n, " rows"), planOf(l...), -1, want)
	}
	checks(t, "201 rows without ops", planOf(make([][]api.Op, 201)...), -1, api.ErrFull)
	checks(t, "200 rows without ops", planOf(make([][]api.Op, 200)...), 0, api.ErrShape)
	checks(t, "nil", planOf(), -1, api.ErrShape)
	checks(t, "empty", plan.Plan{Many: 24, Rows: [][]api.Op{}}, -1, api.ErrShape)
}

// P100: the first row that is not well; of one row, what is named first.
func TestRowsThatAreNotWell(t *testing.T) {
	what, low, odd := api.Op{Kind: "what"}, set(0, 1), api.Op{Kind: "set", D: 1, A: 1}
	a, b, c, d := set(1, 1), set(2, 2), set(3, 3), set(4, 4)
	ld, st := loaded(9, 0, 0), stored(0, 1, 0)
	for n, x := range []struct {
		rows [][]api.Op
		at   int
		err  error
	}{
		{rows(row()), 0, api.ErrShape}, {rows(nil, row(out())), 0, api.ErrShape}, {rows(row(out()), row()), 0, api.ErrShape}, {rows(row(a), row(), row(out())), 1, api.ErrShape},
		{rows(row(a, b, c, d, out())), 0, api.ErrShape}, {rows(row(a, b, c, ld, out())), 0, api.ErrShape}, {rows(row(a), row(what, what, what, what, what)), 1, api.ErrShape}, {rows(slices.Repeat(row(ld), 300)), 0, api.ErrShape},
		{rows(row(what)), 0, api.ErrKind}, {rows(row(a, what), row(out())), 0, api.ErrKind}, {rows(row(a), row(what, low)), 1, api.ErrKind}, {rows(row(low, what), row(out())), 0, api.ErrBound}, {rows(row(odd, low, what), row(out())), 0, api.ErrShape},
		{rows(row(a, b, c, what), row(out())), 0, api.ErrKind}, {rows(row(ld, st, low), row(out())), 0, api.ErrBound}, {rows(row(a, a, odd), row(out())), 0, api.ErrShape}, {rows(row(out(), what)), 0, api.ErrKind},
		{rows(row(a, b, c, d), row(out())), 0, api.ErrFull}, {rows(row(out()), row(a, b, c, d)), 0, api.ErrShape}, {rows(row(a, a, a, a)), 0, api.ErrFull}, {rows(row(a, overflow("over+", 1, 1), overflow("over-", 1, 1), overflow("over+", 1, 1)), row(out())), 0, api.ErrFull},
		{rows(row(ld, st), row(out())), 0, api.ErrFull}, {rows(row(st, st), row(out())), 0, api.ErrFull}, {rows(row(ld, loaded(8, 0, 4), out())), 0, api.ErrFull}, {rows(row(ld, ld), row(out())), 0, api.ErrFull}, {rows(row(a, a, st, st), row(out())), 0, api.ErrFull},
		{rows(row(leaveIf(1), leaveIf(2)), row(out())), 0, api.ErrFull}, {rows(row(leaveIf(1), out())), 0, api.ErrFull}, {rows(row(out(), out())), 0, api.ErrFull}, {rows(row(a), row(out(), outr(1))), 1, api.ErrFull}, {rows(row(leaveIf(1), outr(1)), row(out())), 0, api.ErrFull},
		{rows(row(a, set(1, 9)), row(out())), 0, api.ErrExist}, {rows(row(a, b, moved(1, 5), out())), 0, api.ErrExist}, {rows(row(set(9, 9), ld), row(out())), 0, api.ErrExist}, {rows(row(ld, b, of("quo", 9, 1, 2)), row(out())), 0, api.ErrExist}, {rows(row(a), row(b, b)), 1, api.ErrExist}, {rows(row(a, a, out()), row(out())), 0, api.ErrExist},
		{rows(row(set(63, 1), moved(63, 63), out())), 0, api.ErrExist},
		{rows(row(a)), 0, api.ErrShape}, {rows(row(a), row(b)), 1, api.ErrShape}, {rows(row(out()), row(out())), 0, api.ErrShape}, {rows(row(a), row(outr(1), b), row(c), row(out())), 1, api.ErrShape}, {rows(row(leaveIf(0))), 0, api.ErrShape}, {rows(row(a), row(st)), 1, api.ErrShape},
		{rows(row(out(), a), row(what)), 0, api.ErrShape}, {rows(row(a), row(b, b), row(what), row()), 1, api.ErrExist}, {rows(row(a), row(what), row(b, b), row()), 1, api.ErrKind},
	} {
		checks(t, fmt.Sprint(n), planOf(x.rows...), x.at, x.err)
	}
}

// P100: how many stores there may be is told behind all rows, and bare.
func TestStoresOfAPlan(t *testing.T) {
	list := func(stores int, last ...api.Op) plan.Plan {
		return planOf(append(slices.Repeat(rows(row(stored(0, 1, 0))), stores), last)...)
	}
	checks(t, "8", list(8, out()), -1, nil)
	checks(t, "8 with loads", planOf(append(list(8, loaded(1, 2, 4)).Rows, row(loaded(1, 2, 4), out()))...), -1, nil)
	checks(t, "8, the last one with out", list(7, stored(0, 1, 0), out()), -1, nil)
	checks(t, "9", list(9, out()), -1, api.ErrFull)
	checks(t, "9, the last one with out", list(8, stored(0, 1, 0), out()), -1, api.ErrFull)
	checks(t, "199", list(199, out()), -1, api.ErrFull)
	checks(t, "9, and none leaves", list(9, set(1, 1)), 9, api.ErrShape)
	checks(t, "9, and no kind", list(9, api.Op{Kind: "what"}), 9, api.ErrKind)
}

// P100: of a row that has one op alone, ir.Check's error is the row's.
func TestOpsOfARowAreAsOfACode(t *testing.T) {
	values := []int{math.MinInt, -3, -2, -1, 0, 1, 2, 3, 4, 5, 32, 33, 62, 63, 64, 65, 1<<32 + 1, math.MaxInt}
	for _, kind := range append(allKinds(), "", "Set", "over", "what") {
		leaves := kind == "out" || kind == "outr"
		for _, d := range values {
			for _, a := range values {
				for _, b := range values {
					for _, o := range []api.Op{{Kind: kind, D: d, A: a, B: b}, {Kind: kind, D: d, A: a, B: b, Imm: 7, At: 2}, {Kind: kind, D: d, A: a, B: b, At: 3}, {Kind: kind, D: d, A: a, B: b, At: -1}} {
						c, l := row(o, api.Op{Kind: "out", At: 2}), rows(row(o), row(out()))
						if leaves {
							c, l = c[:1], l[:1]
						}
						want, got := ir.Check(ir.Code{Many: 3, Ops: c}), plan.Check(planOf(l...))
						if fmt.Sprintf("%#v", unplaced(want)) != fmt.Sprintf("%#v", unplaced(got)) {
							t.Fatalf("%+v: %v, not %v", o, got, want)
						}
					}
				}
			}
		}
	}
}

// unplaced is what a fault at 0 has.
func unplaced(err error) any {
	if fault, ok := err.(*api.Fault); ok {
		return *fault
	}
	return err
}

// P102
func TestOpsAndWide(t *testing.T) {
	for _, c := range []struct {
		p         plan.Plan
		ops, wide int
	}{
		{plan.Plan{}, 0, 0}, {planOf(nil), 0, 0}, {planOf(nil, row(), nil), 0, 0}, {planOf(row(out())), 1, 1}, {planOf(row(set(1, 1), set(2, 2), out())), 3, 3},
		{planOf(row(set(1, 1)), row(set(1, 1), set(2, 2), loaded(3, 0, 0), leaveIf(1)), row(set(1, 1), out())), 7, 4}, {planOf(row(set(1, 1)), nil, row(set(1, 1), set(2, 2)), row(out())), 4, 2},
		{planOf(slices.Repeat(row(api.Op{}), 7), row(out())), 8, 7}, {plan.Plan{Many: -1, Rows: rows(row(api.Op{Kind: "what"}, api.Op{Kind: "what"}))}, 2, 2}, {planOf(slices.Repeat(rows(row(out(), out())), 300)...), 600, 2},
	} {
		was := fmt.Sprint(c.p)
		if ops, wide := plan.Ops(c.p), plan.Wide(c.p); ops != c.ops || wide != c.wide || fmt.Sprint(c.p) != was {
			t.Errorf("%+v: %d, %d, not %d, %d", c.p, ops, wide, c.ops, c.wide)
		}
	}
}

// P3: what lies behind a row's length is none of it.
func TestCheckReadsUpToTheLength(t *testing.T) {
	long := row(set(1, 1), out(), api.Op{Kind: "what"}, out(), out())
	all := rows(long[:2], nil)
	checks(t, "cut", planOf(all[:1]...), -1, nil)
	if plan.Ops(planOf(all[:1]...)) != 2 || plan.Wide(planOf(all[:1]...)) != 2 {
		t.Error("more ops than there are")
	}
}
