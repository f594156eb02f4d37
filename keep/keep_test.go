package keep_test

import (
	"errors"
	"fmt"
	"math"
	"slices"
	"testing"

	"changeling/api"
	"changeling/asm"
	"changeling/cpu"
	"changeling/host"
	"changeling/ir"
	"changeling/keep"
	"changeling/plan"
	"changeling/ram"
	"changeling/region"
)

// out is a plan that leaves for a place.
func out(pc, to uint32) plan.Plan {
	return plan.Plan{PC: pc, Many: 1, Rows: [][]api.Op{{{Kind: "out", Imm: to}}}}
}

// made is a keep, which has room.
func made(t *testing.T, many int) *keep.Keep {
	t.Helper()
	k, err := keep.New(many)
	if k == nil || err != nil {
		t.Fatalf("a keep of %d: %v", many, err)
	}
	return k
}

// put a plan that is well.
func put(t *testing.T, k *keep.Keep, p plan.Plan, pages ...int) {
	t.Helper()
	if err := k.Put(p, pages); err != nil {
		t.Fatalf("put of %d: %v", p.PC, err)
	}
}

// gets holds where the plan of a place leaves for against what it should be.
func gets(t *testing.T, k *keep.Keep, pc, to uint32) {
	t.Helper()
	if p, is := k.Get(pc); !is || fmt.Sprint(p) != fmt.Sprint(out(pc, to)) {
		t.Errorf("at %d: %v, %v", pc, p, is)
	}
}

// has holds PCs and pages of a keep, as texts, against what they should be.
func has(t *testing.T, k *keep.Keep, pcs, pages string) {
	t.Helper()
	if got := fmt.Sprint(k.PCs()); got != pcs {
		t.Errorf("PCs are %s, not %s", got, pcs)
	}
	if got := fmt.Sprint(k.Pages()); got != pages {
		t.Errorf("pages are %s, not %s", got, pages)
	}
}

// P120
func TestNewHasRoomForSoMany(t *testing.T) {
	for many := 1; many <= api.MaxKeep; many++ {
		k := made(t, many)
		has(t, k, "[]", "[]")
		var want []uint32
		for n := range uint32(many) {
			put(t, k, out(4*n, n))
			want = append(want, 4*n)
		}
		if pcs := k.PCs(); !slices.Equal(pcs, want) {
			t.Errorf("room for %d: %v", many, pcs)
		}
		put(t, k, out(1000, 7))
		if pcs := k.PCs(); !slices.Equal(pcs, append(want[1:], 1000)) {
			t.Errorf("one more than %d: %v", many, pcs)
		}
	}
}

// P120
func TestNewTakesNoOtherRoom(t *testing.T) {
	for _, many := range []int{0, -1, api.MaxKeep + 1, math.MinInt, math.MaxInt} {
		if k, err := keep.New(many); k != nil || err != api.ErrBound {
			t.Errorf("%d: %v, %v", many, k, err)
		}
	}
}

// P120
func TestANewKeepHasNothing(t *testing.T) {
	k := made(t, 2)
	if p, is := k.Get(0); is || p.PC != 0 || p.Many != 0 || len(p.Rows) > 0 {
		t.Error(p, is)
	}
	if l := k.Drop(0); len(l) > 0 {
		t.Error(l)
	}
	has(t, k, "[]", "[]")
}

// P120
func TestPutIsTheLastOneThen(t *testing.T) {
	k := made(t, 4)
	put(t, k, out(12, 1), 3)
	put(t, k, out(4, 2), 1)
	put(t, k, out(8, 3), 2)
	has(t, k, "[12 4 8]", "[1 2 3]")
	gets(t, k, 12, 1)
	gets(t, k, 4, 2)
	gets(t, k, 8, 3)
}

// P120: one of a PC that is there takes its place: it has its own ops and pages, none of those of the one ahead.
func TestPutInThePlaceOfOne(t *testing.T) {
	k := made(t, 3)
	put(t, k, out(4, 1), 0, 5)
	put(t, k, out(8, 2), 1)
	put(t, k, out(12, 3), 2)
	put(t, k, out(4, 9), 6)
	has(t, k, "[8 12 4]", "[1 2 6]")
	if l := k.Drop(5); len(l) > 0 {
		t.Error("a page of a plan that is no more has dropped", l)
	}
	gets(t, k, 4, 9)
	put(t, k, out(12, 4))
	has(t, k, "[8 4 12]", "[1 6]")
}

// P120: nothing goes for one that takes the place of another; nor is it the last one that goes.
func TestTheFirstOneGoes(t *testing.T) {
	k := made(t, 2)
	put(t, k, out(4, 1), 1)
	put(t, k, out(8, 2), 2)
	put(t, k, out(4, 3), 1)
	has(t, k, "[8 4]", "[1 2]")
	put(t, k, out(12, 4), 3)
	has(t, k, "[4 12]", "[1 3]")
	gets(t, k, 4, 3)
	put(t, k, out(16, 5), 4)
	has(t, k, "[4 16]", "[1 4]")
	if p, is := k.Get(12); is || len(p.Rows) > 0 {
		t.Error(p, is)
	}
	one := made(t, 1)
	put(t, one, out(4, 1), 1)
	put(t, one, out(4, 2), 2)
	gets(t, one, 4, 2)
	put(t, one, out(0, 3), 0)
	has(t, one, "[0]", "[0]")
}

// P120
func TestGetIsTheLastOneThen(t *testing.T) {
	k := made(t, 3)
	put(t, k, out(4, 1), 1)
	put(t, k, out(8, 2), 2)
	put(t, k, out(12, 3), 3)
	gets(t, k, 8, 2)
	has(t, k, "[4 12 8]", "[1 2 3]")
	gets(t, k, 8, 2)
	has(t, k, "[4 12 8]", "[1 2 3]")
	gets(t, k, 4, 1)
	has(t, k, "[12 8 4]", "[1 2 3]")
}

// P120: who asks for one that is not there, or for PCs, pages or a page that is no one's, has asked for no plan.
func TestWhatIsNotAskedForStaysWhereItIs(t *testing.T) {
	k := made(t, 3)
	put(t, k, out(4, 1), 1)
	put(t, k, out(8, 2), 2)
	put(t, k, out(12, 3), 3)
	for _, pc := range []uint32{0, 5, 16, math.MaxUint32} {
		if p, is := k.Get(pc); is || p.PC != 0 || p.Many != 0 || len(p.Rows) > 0 {
			t.Errorf("at %d: %v, %v", pc, p, is)
		}
	}
	for _, page := range []int{0, 4, -1, 64, math.MinInt, math.MaxInt} {
		if l := k.Drop(page); len(l) > 0 {
			t.Errorf("page %d: %v", page, l)
		}
	}
	has(t, k, "[4 8 12]", "[1 2 3]")
	has(t, k, "[4 8 12]", "[1 2 3]")
}

// P120 P121: PCs of those that go are in the order of the keep, not of the numbers.
func TestDropTakesAllOfAPage(t *testing.T) {
	k := made(t, 6)
	put(t, k, out(40, 1), 7, 3)
	put(t, k, out(8, 2), 3)
	put(t, k, out(24, 3), 4)
	put(t, k, out(12, 4), 1, 2, 3)
	put(t, k, out(4, 5))
	put(t, k, out(16, 6), 3, 4)
	gets(t, k, 8, 2)
	if l := k.Drop(3); fmt.Sprint(l) != "[40 12 16 8]" {
		t.Error(l)
	}
	has(t, k, "[24 4]", "[4]")
	for _, pc := range []uint32{40, 12, 16, 8} {
		if p, is := k.Get(pc); is || len(p.Rows) > 0 {
			t.Errorf("at %d: %v, %v", pc, p, is)
		}
	}
	if l := k.Drop(3); len(l) > 0 {
		t.Error(l)
	}
	gets(t, k, 24, 3)
	put(t, k, out(40, 7), 3)
	has(t, k, "[4 24 40]", "[3 4]")
	if l := k.Drop(4); fmt.Sprint(l) != "[24]" {
		t.Error(l)
	}
	has(t, k, "[4 40]", "[3]")
}

// P120: what has gone makes room.
func TestDropMakesRoom(t *testing.T) {
	k := made(t, 3)
	put(t, k, out(4, 1), 1)
	put(t, k, out(8, 2), 2)
	put(t, k, out(12, 3), 1)
	k.Drop(1)
	put(t, k, out(16, 4), 4)
	put(t, k, out(20, 5), 5)
	has(t, k, "[8 16 20]", "[2 4 5]")
	put(t, k, out(24, 6), 6)
	has(t, k, "[16 20 24]", "[4 5 6]")
}

// P120
func TestPagesAreRisingEachOnce(t *testing.T) {
	k := made(t, 4)
	put(t, k, out(4, 1), 63, 2, 2, 0, 63)
	has(t, k, "[4]", "[0 2 63]")
	put(t, k, out(8, 1), 2, 1, 10, 9)
	has(t, k, "[4 8]", "[0 1 2 9 10 63]")
	put(t, k, out(12, 1), math.MaxInt, -1, 64, math.MinInt)
	if want := []int{math.MinInt, -1, 0, 1, 2, 9, 10, 63, 64, math.MaxInt}; !slices.Equal(k.Pages(), want) {
		t.Error(k.Pages())
	}
	if l := k.Drop(-1); fmt.Sprint(l) != "[12]" {
		t.Error(l)
	}
	if l := k.Drop(2); fmt.Sprint(l) != "[4 8]" {
		t.Error(l)
	}
	has(t, k, "[]", "[]")
}

// P120: plans of no page are kept, and none of them goes with a page.
func TestAPlanMayHaveNoPage(t *testing.T) {
	k := made(t, 3)
	if err := errors.Join(k.Put(out(4, 1), nil), k.Put(out(8, 2), []int{})); err != nil {
		t.Fatal(err)
	}
	for page := range 64 {
		if l := k.Drop(page); len(l) > 0 {
			t.Error(page, l)
		}
	}
	has(t, k, "[4 8]", "[]")
	gets(t, k, 4, 1)
}

// P120: any word is a PC.
func TestAnyPlaceIsKept(t *testing.T) {
	k := made(t, 5)
	for n, pc := range []uint32{math.MaxUint32, 0, 3, api.RamSize, 1 << 31} {
		put(t, k, out(pc, uint32(n)), n)
		gets(t, k, pc, uint32(n))
	}
	has(t, k, "[4294967295 0 3 16384 2147483648]", "[0 1 2 3 4]")
}

// wrongPlans at 8, with plan.Check's errors; place -1: bare.
func wrongPlans() []struct {
	p    plan.Plan
	at   int
	want error
} {
	last := []api.Op{{Kind: "out"}}
	set := func(d int) api.Op { return api.Op{Kind: "set", D: d} }
	of := func(many int, rows ...[]api.Op) plan.Plan { return plan.Plan{PC: 8, Many: many, Rows: rows} }
	stores := slices.Repeat([][]api.Op{{{Kind: "store", D: 4}}}, api.Gate+1)
	return []struct {
		p    plan.Plan
		at   int
		want error
	}{
		{of(0, last), -1, api.ErrBound},
		{of(api.MaxRegion+1, last), -1, api.ErrBound},
		{of(1, make([][]api.Op, api.MaxOps+1)...), -1, api.ErrFull},
		{of(1), -1, api.ErrShape},
		{of(1, last, last), 0, api.ErrShape},
		{of(1, []api.Op{set(1)}, []api.Op{}, last), 1, api.ErrShape},
		{of(1, []api.Op{{Kind: "sett"}}, last), 0, api.ErrKind},
		{of(1, []api.Op{set(1)}, []api.Op{set(64)}, last), 1, api.ErrBound},
		{of(1, []api.Op{set(1), set(2), set(3), set(4)}, last), 0, api.ErrFull},
		{of(1, []api.Op{set(1), set(1)}, last), 0, api.ErrExist},
		{of(1, append(stores, last)...), -1, api.ErrFull},
	}
}

// P120: a plan that is not well is not put, and nothing has changed: the plan of its PC is there, in its place, with its pages, and the first one has not gone.
func TestPutTellsTheErrorsOfCheck(t *testing.T) {
	k := made(t, 2)
	put(t, k, out(8, 2), 2)
	put(t, k, out(4, 1), 1)
	for n, x := range wrongPlans() {
		for _, pc := range []uint32{8, 12} {
			x.p.PC = pc
			err, check := k.Put(x.p, []int{1, 9}), plan.Check(x.p)
			var fault *api.Fault
			at := -1
			if errors.As(err, &fault) {
				at = fault.At
			}
			if !errors.Is(err, x.want) || at != x.at || x.at < 0 && err != x.want || fmt.Sprint(err) != fmt.Sprint(check) {
				t.Errorf("plan %d: %v at %d, not %v at %d", n, err, at, x.want, x.at)
			}
			has(t, k, "[8 4]", "[1 2]")
		}
	}
	put(t, k, out(12, 3), 3)
	has(t, k, "[4 12]", "[1 3]")
	gets(t, k, 4, 1)
}

// P4: what was handed over is as it was, also behind the lengths of its lists.
func TestPutOnlyReads(t *testing.T) {
	k := made(t, 1)
	ops := []api.Op{{Kind: "set", D: 1}, {Kind: "out", Imm: 7}, {Kind: "set", D: 3}}
	rows := [][]api.Op{ops[:1], ops[1:2], ops[2:]}
	pages := []int{9, 3, 9, 1, 8}
	p := plan.Plan{PC: 4, Many: 1, Rows: rows[:2]}
	if err := k.Put(p, pages[:3]); err != nil {
		t.Fatal(err)
	}
	if got, is := k.Get(4); !is || fmt.Sprint(got) != "{4 1 [[{set 1 0 0 0 0}] [{out 0 0 0 7 0}]]}" {
		t.Error(got, is)
	}
	k.Drop(3)
	if fmt.Sprint(pages) != "[9 3 9 1 8]" || fmt.Sprint(rows) != "[[{set 1 0 0 0 0}] [{out 0 0 0 7 0}] [{set 3 0 0 0 0}]]" {
		t.Error(pages, rows)
	}
}

// P4: what is done to a plan or to pages behind Put does not show.
func TestWhatIsPutIsNotShared(t *testing.T) {
	k := made(t, 2)
	p, pages := out(4, 1), []int{5, 2}
	p.Rows = append([][]api.Op{{{Kind: "set", D: 1, Imm: 6}}}, p.Rows...)
	want := fmt.Sprint(p)
	if err := k.Put(p, pages); err != nil {
		t.Fatal(err)
	}
	p.Rows[0][0].Imm, p.Rows[1], pages[0] = 99, nil, 7
	if got, is := k.Get(4); !is || fmt.Sprint(got) != want {
		t.Error(got, is)
	}
	has(t, k, "[4]", "[2 5]")
	if l := k.Drop(7); len(l) > 0 {
		t.Error(l)
	}
}

// P4: what is done to an answer shows neither in the keep nor in another answer, nor does one list of it show in another one.
func TestWhatIsAnsweredIsNotShared(t *testing.T) {
	k := made(t, 3)
	ops := []api.Op{{Kind: "set", D: 1, Imm: 6}, {Kind: "out", Imm: 7}}
	p := plan.Plan{PC: 4, Many: 1, Rows: [][]api.Op{ops[:1], ops[1:]}}
	want := fmt.Sprint(p)
	put(t, k, p, 5, 2)
	put(t, k, out(8, 1), 2, 1)
	first, _ := k.Get(4)
	second, _ := k.Get(4)
	_ = append(first.Rows[0], api.Op{Kind: "copy"})
	if fmt.Sprint(first) != want {
		t.Error("rows are one memory:", first)
	}
	first.Rows[0][0].Imm, first.Rows[1] = 99, nil
	if third, is := k.Get(4); !is || fmt.Sprint(second) != want || fmt.Sprint(third) != want {
		t.Error(second, third)
	}
	pcs, pages := k.PCs(), k.Pages()
	pcs[0], pages[0] = 99, 99
	_, _ = append(pcs[:1], 98), append(pages[:1], 98)
	has(t, k, "[8 4]", "[1 2 5]")
	dropped := k.Drop(1)
	dropped[0] = 4
	has(t, k, "[4]", "[2 5]")
}

// P2: what is put into one keep is not in another one.
func TestKeepsAreApart(t *testing.T) {
	a, b := made(t, 2), made(t, 2)
	put(t, a, out(4, 1), 1)
	put(t, b, out(4, 2), 2)
	put(t, b, out(8, 3), 1)
	gets(t, a, 4, 1)
	a.Drop(1)
	has(t, a, "[]", "[]")
	has(t, b, "[4 8]", "[1 2]")
}

// P120 P121: plans of regions, whose pages are watched; what was written to goes, and what is left is run.
func TestPlansOfRegionsGoWithTheirPages(t *testing.T) {
	words, err := asm.Assemble([]string{"addiu $1, $0, 7", "addiu $2, $1, 1"}, 0)
	if err != nil {
		t.Fatal(err)
	}
	program := make([]uint32, 256)
	for _, at := range []int{0, 62, 63, 200} {
		copy(program[at:], words)
	}
	memory, k := ram.New(program), made(t, 4)
	for _, pc := range []uint32{800, 252, 0} {
		r, err := region.Form(memory, pc, 2)
		if err != nil {
			t.Fatal(err)
		}
		c, err := ir.Lower(r)
		if err != nil {
			t.Fatal(err)
		}
		p, err := plan.Make(c)
		if err != nil {
			t.Fatal(err)
		}
		put(t, k, p, r.Pages...)
	}
	has(t, k, "[800 252 0]", "[0 1 3]")
	for _, page := range k.Pages() {
		memory.Watch(page, true)
	}
	memory.Store(300, 4, 0)
	for _, page := range memory.Hits() {
		if l := k.Drop(page); page != 1 || fmt.Sprint(l) != "[252]" {
			t.Error(page, l)
		}
	}
	has(t, k, "[800 0]", "[0 3]")
	p, is := k.Get(800)
	guest := cpu.New(800)
	end, err := host.Run(p, guest, memory)
	if !is || end.Trap || err != nil || guest.R[2] != 8 || guest.PC != 808 || guest.Count != 2 {
		t.Error(p, is, end, err, *guest)
	}
}
