package host_test

import (
	"errors"
	"fmt"
	"math"
	"slices"
	"testing"

	"changeling/api"
	"changeling/asm"
	"changeling/bus"
	"changeling/cpu"
	"changeling/host"
	"changeling/ir"
	"changeling/opt"
	"changeling/plan"
	"changeling/ram"
	"changeling/region"
)

const ones = math.MaxUint32

func set(d int, imm uint32) api.Op       { return api.Op{Kind: "set", D: d, Imm: imm} }
func moved(d, a int) api.Op              { return api.Op{Kind: "copy", D: d, A: a} }
func of(kind string, d, a, b int) api.Op { return api.Op{Kind: kind, D: d, A: a, B: b} }
func leaveIf(a int, to uint32) api.Op    { return api.Op{Kind: "if", A: a, Imm: to} }
func loaded(d, a, bytes int, imm uint32) api.Op {
	return api.Op{Kind: "load", D: d, A: a, B: bytes, Imm: imm}
}
func stored(bytes, a, b int, imm uint32) api.Op {
	return api.Op{Kind: "store", D: bytes, A: a, B: b, Imm: imm}
}
func over(a, b int) api.Op        { return api.Op{Kind: "over+", A: a, B: b} }
func out() api.Op                 { return api.Op{Kind: "out", Imm: 200} }
func outr(a int) api.Op           { return api.Op{Kind: "outr", A: a} }
func at(n int, o api.Op) api.Op   { o.At = n; return o }
func row(l ...api.Op) []api.Op    { return l }
func end(l ...[]api.Op) plan.Plan { return planOf(append(l, row(out()))...) }

// planOf rows at 64, of three instructions.
func planOf(rows ...[]api.Op) plan.Plan { return plan.Plan{PC: 64, Many: 3, Rows: rows} }

// full state at 64, whose fields are all their own.
func full() api.State {
	s := api.State{Hi: 101, Lo: 102, PC: 64, Next: 68, Status: 3, Cause: 104, EPC: 105, Bad: 106, Compare: 107, Count: 108}
	for n := 1; n < 32; n++ {
		s.R[n] = uint32(1000 + n)
	}
	return s
}

// left is a state behind a plan of so many instructions that leaves for a place.
func left(s api.State, many int, to uint32) api.State {
	s.PC, s.Next, s.Count = to, to+4, s.Count+many
	return s
}

// watches of all pages.
func watches(r *ram.Ram) []bool {
	var l []bool
	for page := range uint32(64) {
		l = append(l, r.Watched(256*page))
	}
	return l
}

// leaves holds what a plan makes of a state against what it should be; memory is r's. The plan stays as it is.
func leaves(t *testing.T, name string, p plan.Plan, s api.State, r *ram.Ram, want api.State) {
	t.Helper()
	was := fmt.Sprint(p)
	got, err := host.Run(p, &s, r)
	if got != (ir.End{}) || err != nil || s != want {
		t.Errorf("%s: %+v, %v\n got %+v\nwant %+v", name, got, err, s, want)
	}
	if fmt.Sprint(p) != was {
		t.Errorf("%s: the plan has changed", name)
	}
}

// same holds that a plan changes nothing: neither the state, nor memory, its watched pages and hits.
func same(t *testing.T, name string, p plan.Plan, s api.State, r *ram.Ram) (ir.End, error) {
	t.Helper()
	was, plans, words, watched, hits := s, fmt.Sprint(p), r.Words(), watches(r), r.Copy().Hits()
	got, err := host.Run(p, &s, r)
	if s != was || !slices.Equal(r.Words(), words) || !slices.Equal(watches(r), watched) || fmt.Sprint(p) != plans {
		t.Errorf("%s: plan, state, memory or its watches have changed:\n got %+v\nwant %+v", name, s, was)
	}
	if now := r.Copy().Hits(); !slices.Equal(now, hits) {
		t.Errorf("%s: hits %v, not %v", name, now, hits)
	}
	return got, err
}

// traps holds that a plan traps, At a place, with nothing changed.
func traps(t *testing.T, name string, p plan.Plan, s api.State, r *ram.Ram, place int) {
	t.Helper()
	if got, err := same(t, name, p, s, r); got != (ir.End{Trap: true, At: place}) || err != nil {
		t.Errorf("%s: %+v, %v, not at %d", name, got, err, place)
	}
}

// P110: the document's example.
func TestARowChangesRegistersOver(t *testing.T) {
	s := full()
	want := left(s, 3, 200)
	want.R[1], want.R[2] = s.R[2], s.R[1]
	leaves(t, "two", end(row(moved(1, 2), moved(2, 1))), s, ram.New(nil), want)
	want = left(s, 3, 200)
	want.R[1], want.Hi, want.Lo = s.Hi, s.Lo, s.R[1]
	leaves(t, "three", planOf(row(moved(1, api.Hi), moved(api.Hi, api.Lo), out(), moved(api.Lo, 1))), s, ram.New(nil), want)
	want.R[1], want.Hi, want.Lo = s.Lo, s.R[1], s.Hi
	leaves(t, "three, twice", end(row(moved(1, api.Hi), moved(api.Hi, api.Lo), moved(api.Lo, 1)), row(moved(api.Lo, 1), moved(1, api.Hi), moved(api.Hi, api.Lo))), s, ram.New(nil), want)
}

// P110: every kind with D, A and B, of all edges, with what it reads written beside it.
func TestResultsOfARow(t *testing.T) {
	for _, kind := range pairs() {
		for _, a := range edges() {
			for _, b := range edges() {
				s := full()
				s.R[1], s.R[2] = a, b
				want := left(s, 3, 200)
				want.R[1], want.R[2], want.R[3] = 7, b, result(kind, a, b, s.R[3])
				leaves(t, fmt.Sprint(kind, a, b), planOf(row(set(1, 7), of(kind, 3, 1, 2), out())), s, ram.New(nil), want)
				want.R[1], want.R[2], want.R[3] = a, 9, result(kind, a, b, s.R[3])
				leaves(t, fmt.Sprint(kind, a, b, " first"), planOf(row(of(kind, 3, 1, 2), out(), set(2, 9))), s, ram.New(nil), want)
				want.R[1], want.R[2], want.R[3] = result(kind, a, b, a), b, s.R[3]
				leaves(t, fmt.Sprint(kind, a, b, " to itself"), end(row(of(kind, 1, 1, 2))), s, ram.New(nil), want)
			}
		}
	}
}

// P110: whatever the order in a row is, each op reads what registers had ahead of it.
func TestARowReadsFirst(t *testing.T) {
	for name, c := range map[string]struct {
		writes, reads api.Op
		to            uint32
		more          func(s *api.State)
		addr, word    uint32
	}{
		"copy":              {set(1, 16), moved(3, 1), 200, func(s *api.State) { s.R[1], s.R[3] = 16, 8 }, 8, 33},
		"sum":               {set(1, 16), of("add", 3, 1, 1), 200, func(s *api.State) { s.R[1], s.R[3] = 16, 16 }, 8, 33},
		"by what becomes 0": {set(1, 0), of("quou", 3, 2, 1), 200, func(s *api.State) { s.R[1], s.R[3] = 0, 1002/8 }, 8, 33},
		"load":              {set(1, 12), loaded(3, 1, 4, 0), 200, func(s *api.State) { s.R[1], s.R[3] = 12, 33 }, 8, 33},
		"load to odd":       {set(1, 1), loaded(3, 1, 4, 4), 200, func(s *api.State) { s.R[1], s.R[3] = 1, 44 }, 12, 44},
		"store":             {set(1, 5), stored(4, 0, 1, 12), 200, func(s *api.State) { s.R[1] = 5 }, 12, 8},
		"store's address":   {set(1, 1), stored(4, 1, 2, 4), 200, func(s *api.State) { s.R[1] = 1 }, 12, 1002},
		"no trap yet":       {set(1, 1<<31), over(1, 1), 200, func(s *api.State) { s.R[1] = 1 << 31 }, 8, 33},
		"if":                {set(1, 0), leaveIf(1, 96), 96, func(s *api.State) { s.R[1] = 0 }, 8, 33},
		"if not":            {set(40, 9), leaveIf(40, 96), 200, func(s *api.State) {}, 8, 33},
		"a load's register": {loaded(1, 1, 4, 0), leaveIf(1, 96), 96, func(s *api.State) { s.R[1] = 33 }, 8, 33},
		"a load and a copy": {loaded(1, 1, 4, 0), moved(3, 1), 200, func(s *api.State) { s.R[1], s.R[3] = 33, 8 }, 8, 33},
	} {
		for n, l := range [][]api.Op{row(c.writes, c.reads), row(c.reads, c.writes), row(set(50, 1), c.reads, c.writes), row(c.writes, set(50, 1), c.reads)} {
			s, r := full(), ram.New([]uint32{11, 22, 33, 44})
			s.R[1] = 8
			want := left(s, 3, c.to)
			c.more(&want)
			leaves(t, fmt.Sprint(name, n), end(l), s, r, want)
			words := append([]uint32{11, 22, 33, 44}, make([]uint32, 4092)...)
			words[c.addr/4] = c.word
			if !slices.Equal(r.Words(), words) {
				t.Errorf("%s %d: memory has %v", name, n, r.Words()[:5])
			}
		}
	}
	s := full()
	want := left(s, 3, 1001)
	want.R[1] = 9
	leaves(t, "outr", planOf(row(set(1, 9), outr(1))), s, ram.New(nil), want)
	leaves(t, "outr first", planOf(row(outr(1), set(1, 9))), s, ram.New(nil), want)
}

// P110: the guest's registers are there, others are 0 at first, also in the next run, and gone at the end; 0 is 0.
func TestRegistersOfAPlan(t *testing.T) {
	for a := range api.Temps {
		s := full()
		want := left(s, 3, 200)
		switch {
		case a == 0 || a > api.Lo:
			want.R[9] = 0
		case a == api.Hi:
			want.R[9] = s.Hi
		case a == api.Lo:
			want.R[9] = s.Lo
		default:
			want.R[9] = s.R[a]
		}
		leaves(t, fmt.Sprint("copy ", a), end(row(moved(9, a))), s, ram.New(nil), want)
		if a == 0 {
			continue
		}
		want = left(s, 3, 200)
		switch {
		case a < 32:
			want.R[a] = 77
		case a == api.Hi:
			want.Hi = 77
		case a == api.Lo:
			want.Lo = 77
		}
		leaves(t, fmt.Sprint("set ", a), end(row(set(a, 77))), s, ram.New(nil), want)
	}
}

// P110: an if leaves when its row is done, and rows behind it are not; the rest of the state stays.
func TestLeaving(t *testing.T) {
	s := full()
	for name, c := range map[string]struct {
		p       plan.Plan
		to      uint32
		three   uint32
		stored0 uint32
	}{
		"out":                  {planOf(row(out())), 200, 1003, 5},
		"out of many":          {planOf(row(set(3, 1)), row(set(3, 2)), row(set(3, 4), out())), 200, 4, 5},
		"outr":                 {planOf(row(outr(2))), 1002, 1003, 5},
		"outr of 0":            {planOf(row(outr(0))), 0, 1003, 5},
		"outr of what was put": {planOf(row(set(63, 96)), row(outr(63))), 96, 1003, 5},
		"if of 0":              {end(row(leaveIf(0, 12), set(3, 9))), 200, 9, 5},
		"if":                   {end(row(leaveIf(2, 12), set(3, 9))), 12, 9, 5},
		"if behind":            {end(row(set(3, 9), leaveIf(2, 12))), 12, 9, 5},
		"if and a store":       {end(row(leaveIf(2, 12), stored(4, 0, 2, 0))), 12, 1003, 1002},
		"a store and if":       {end(row(stored(4, 0, 2, 0), set(3, 4), leaveIf(2, 12))), 12, 4, 1002},
		"rows behind":          {planOf(row(leaveIf(2, 12), set(3, 9)), row(set(3, 10), stored(4, 0, 2, 0)), row(set(3, 11), out())), 12, 9, 5},
		"a trap behind":        {end(row(leaveIf(2, 12)), row(loaded(3, 0, 4, 1))), 12, 1003, 5},
		"a bad store behind":   {end(row(leaveIf(2, 12)), row(stored(4, 0, 3, 1))), 12, 1003, 5},
		"the second if":        {end(row(leaveIf(0, 12), set(3, 9)), row(leaveIf(3, 16), stored(4, 0, 3, 0)), row(set(3, 1))), 16, 9, 9},
		"an odd place":         {end(row(leaveIf(2, 7))), 7, 1003, 5},
		"the highest place":    {planOf(row(api.Op{Kind: "out", Imm: ones})), ones, 1003, 5},
		"the place itself":     {planOf(row(api.Op{Kind: "out", Imm: 64})), 64, 1003, 5},
	} {
		r := ram.New([]uint32{5, 6})
		want := left(s, 3, c.to)
		want.R[3] = c.three
		leaves(t, name, c.p, s, r, want)
		if words := r.Words(); words[0] != c.stored0 || words[1] != 6 {
			t.Errorf("%s: memory has %v", name, words[:2])
		}
	}
	for _, many := range []int{1, 2, 23, 24} {
		leaves(t, fmt.Sprint(many), plan.Plan{PC: 64, Many: many, Rows: end().Rows}, s, ram.New(nil), left(s, many, 200))
	}
}

// P111: a load sees the stores of rows ahead, whatever part of it they are, the last one first; memory has them in order.
func TestLoadsSeeWhatWaits(t *testing.T) {
	s := full()
	s.R[1], s.R[2] = 0xA1B2C3D4, 0x15263748
	for _, first := range []int{1, 2, 4} {
		for _, second := range []int{1, 2, 4} {
			for _, size := range []int{1, 2, 4, -1, -2} {
				for a := 0; a < 8; a += first {
					for b := 0; b < 8; b += second {
						for place := 0; place < 8; place += max(size, -size) {
							p := planOf(row(loaded(3, 0, size, uint32(place))), row(stored(first, 0, 1, uint32(a))), row(set(5, 1), stored(second, 0, 2, uint32(b))), row(loaded(4, 0, size, uint32(place)), out()))
							r := ram.New([]uint32{0x51627384, 0x95A6B7C8})
							m := machineOf(s, r)
							m.run(p)
							leaves(t, fmt.Sprint(p.Rows), p, s, r, m.s)
							if !slices.Equal(r.Words(), m.words()) {
								t.Errorf("%v: memory is not as it should be", p.Rows)
							}
						}
					}
				}
			}
		}
	}
}

// P111: as many stores as may wait, by hand.
func TestStoresWaitInOrder(t *testing.T) {
	var rows [][]api.Op
	for n := range 8 {
		rows = append(rows, row(set(5, uint32(n+1)), stored(1, 0, 5, uint32(n%4)), moved(10+n, 5)), row(loaded(20+n, 0, 4, 0)))
	}
	s, r := full(), ram.New([]uint32{0xF0F1F2F3, 9})
	s.R[5] = 0xE0
	want := left(s, 3, 200)
	want.R[5] = 8
	for n, v := range []uint32{0xE0F1F2F3, 0xE001F2F3, 0xE00102F3, 0xE0010203, 0x04010203, 0x04050203, 0x04050603, 0x04050607} {
		want.R[20+n], want.R[10+n] = v, uint32(n)
	}
	want.R[10] = 0xE0
	leaves(t, "eight stores", end(rows...), s, r, want)
	if words := r.Words(); words[0] != 0x04050607 || words[1] != 9 || len(r.Hits()) > 0 {
		t.Errorf("memory has %x", words[:2])
	}
}

// trapping ops, with register 1 the least word, 2 one and 3 the greatest one, and pages 1, 2 and 63 watched.
func trapping() []api.Op {
	return []api.Op{
		{Kind: "over+", A: 1, B: 1}, {Kind: "over+", A: 3, B: 2}, {Kind: "over-", A: 1, B: 2}, {Kind: "over-", A: 0, B: 1},
		loaded(4, 0, 4, 1), loaded(4, 0, 4, 2), loaded(4, 0, 4, 3), loaded(4, 0, 2, 1), loaded(4, 0, -2, 3), loaded(4, 2, 4, 0), loaded(4, 0, 4, api.RamSize), loaded(4, 0, 1, api.RamSize), loaded(4, 0, -1, ones), loaded(4, 0, 4, api.Console), loaded(4, 0, 4, api.Clock), loaded(40, 0, 4, api.Lamp), loaded(4, 0, 4, api.LastIO), loaded(4, 1, 1, 0),
		stored(4, 0, 0, 1), stored(4, 0, 0, 2), stored(2, 0, 0, 3), stored(2, 2, 0, 0), stored(4, 3, 0, 0), stored(4, 0, 0, api.RamSize), stored(1, 0, 0, api.RamSize), stored(1, 0, 0, ones), stored(4, 0, 0, api.Console), stored(4, 0, 0, api.Lamp), stored(4, 1, 0, 4),
		stored(4, 0, 0, 256), stored(1, 0, 0, 511), stored(2, 0, 2, 300), stored(1, 0, 0, api.RamSize-1), stored(4, 0, 2, api.RamSize-256),
	}
}

// trapWorld is what trapping ops are of; its memory has a hit.
func trapWorld() (api.State, *ram.Ram) {
	s, r := full(), ram.New([]uint32{1, 2, 3, 4})
	s.R[1], s.R[2], s.R[3] = 1<<31, 1, 1<<31-1
	for _, page := range []int{1, 2, 63} {
		r.Watch(page, true)
	}
	r.Store(600, 4, 9)
	return s, r
}

// P110, P111: registers and stores ahead of a trap are as if they had not been; a row that leaves traps all the same.
func TestTrapsChangeNothing(t *testing.T) {
	s, r := trapWorld()
	ahead := [][]api.Op{row(set(9, 77), moved(api.Hi, 5), stored(4, 0, 2, 0), leaveIf(50, 8)), row(of("mul", api.Lo, 9, 9), stored(1, 0, 9, 255), moved(3, 3)), row(loaded(10, 0, 4, 0))}
	for _, o := range trapping() {
		for n := range 3 {
			o, name := at(n, o), fmt.Sprint(o)
			traps(t, name+" alone", end(row(o)), s, r, n)
			traps(t, name+" behind rows", end(append(ahead, row(set(6, 1), o))...), s, r, n)
			traps(t, name+" ahead of rows", end(append([][]api.Op{row(o)}, ahead...)...), s, r, n)
			traps(t, name+" ahead of a row that traps", end(row(o), row(at((n+1)%3, over(1, 1)))), s, r, n)
			traps(t, name+" ahead of an if", end(row(o, leaveIf(2, 8))), s, r, n)
			traps(t, name+" behind an if", end(row(leaveIf(2, 8), set(6, 1), o)), s, r, n)
			traps(t, name+" with out", planOf(row(set(5, 5)), row(set(6, 6), at(2, out()), o)), s, r, n)
			traps(t, name+" with what would mend it", end(row(set(1, 0), set(2, 0), o)), s, r, n)
		}
	}
}

// P110: of a row, the first op that traps, as they stand there; a store does when it is read.
func TestTheFirstTrapOfARow(t *testing.T) {
	s, r := trapWorld()
	for _, first := range trapping() {
		for _, second := range trapping() {
			p := end(row(set(9, 1)), row(at(0, leaveIf(2, 8)), at(2, first), at(1, second)), row(at(0, over(1, 1))))
			if plan.Check(p) == nil {
				traps(t, fmt.Sprint(first, second), p, s, r, 2)
			}
		}
	}
	traps(t, "a store, then a load behind it", end(row(at(2, stored(4, 0, 2, 256))), row(at(1, loaded(4, 0, 4, 1)))), s, r, 2)
	traps(t, "a store that waits, then one that may not", end(row(at(2, stored(4, 0, 2, 0))), row(at(1, stored(4, 0, 2, 256)), at(0, over(1, 1)))), s, r, 1)
}

// P110: a page counts as watched while it is; loads make no difference, and hits that others made stay.
func TestWatchedPages(t *testing.T) {
	s, r := full(), ram.New(nil)
	r.Watch(3, true)
	r.Store(768, 4, 1)
	r.Watch(3, false)
	for n, c := range []struct {
		page int
		on   bool
		imm  uint32
		trap bool
	}{{1, true, 252, false}, {1, true, 256, true}, {1, true, 508, true}, {1, true, 512, false}, {1, false, 256, false}, {0, true, 0, true}, {0, true, 256, false}, {63, true, 16380, true}, {63, false, 16380, false}, {0, false, 768, false}} {
		r.Watch(c.page, c.on)
		p := end(row(loaded(40, 0, 4, c.imm)), row(at(1, stored(4, 0, 5, c.imm))), row(loaded(41, 0, 4, c.imm)))
		if c.trap {
			traps(t, fmt.Sprint(n), p, s, r, 1)
			continue
		}
		leaves(t, fmt.Sprint(n), p, s, r, left(s, 3, 200))
		if v, _ := r.Load(c.imm, 4, false); v != s.R[5] {
			t.Errorf("%d: %d is there", n, v)
		}
	}
	if hits := r.Hits(); !slices.Equal(hits, []int{3}) {
		t.Errorf("hits: %v", hits)
	}
}

// P110, P3: errors in their order, with their places, and nothing else.
func TestErrors(t *testing.T) {
	r, what := ram.New([]uint32{1}), api.Op{Kind: "what"}
	slot, away, next := full(), full(), full()
	slot.Slot, away.PC, next.Next = true, 60, 72
	for n, c := range []struct {
		p    plan.Plan
		s    api.State
		at   int
		want error
	}{
		{plan.Plan{}, full(), -1, api.ErrBound}, {plan.Plan{PC: 64, Many: 25, Rows: end().Rows}, slot, -1, api.ErrBound}, {plan.Plan{PC: 64, Rows: end().Rows}, full(), -1, api.ErrBound}, {planOf(), away, -1, api.ErrShape}, {planOf(make([][]api.Op, 201)...), next, -1, api.ErrFull},
		{planOf(nil, row(out())), full(), 0, api.ErrShape}, {planOf(row(set(1, 1))), full(), 0, api.ErrShape}, {end(row(out())), full(), 0, api.ErrShape}, {end(row(set(1, 1)), row(what)), slot, 1, api.ErrKind}, {end(row(set(1, 1)), row(set(2, 1)), row(set(0, 1))), away, 2, api.ErrBound}, {end(row(set(64, 1))), full(), 0, api.ErrBound}, {end(row(moved(1, -1))), full(), 0, api.ErrBound}, {end(row(at(3, set(1, 1)))), full(), 0, api.ErrBound}, {end(row(loaded(1, 0, 3, 0))), full(), 0, api.ErrBound}, {end(row(stored(-1, 0, 0, 0))), full(), 0, api.ErrBound}, {end(row(api.Op{Kind: "copy", D: 1, B: 1})), full(), 0, api.ErrShape},
		{end(row(set(1, 1), set(2, 1), set(3, 1), set(4, 1))), next, 0, api.ErrFull}, {end(row(stored(4, 0, 0, 0), loaded(1, 0, 4, 0))), full(), 0, api.ErrFull}, {planOf(row(leaveIf(1, 1), out())), full(), 0, api.ErrFull}, {end(row(set(1, 1), moved(1, 2))), full(), 0, api.ErrExist}, {end(slices.Repeat([][]api.Op{row(stored(4, 0, 1, 0))}, 9)...), slot, -1, api.ErrFull},
		{end(row(set(1, 1))), slot, -1, api.ErrAlign}, {end(row(set(1, 1))), away, -1, api.ErrAlign}, {end(row(stored(4, 0, 1, 0))), next, -1, api.ErrAlign}, {end(row(over(1, 1))), api.State{}, -1, api.ErrAlign}, {plan.Plan{PC: 65, Many: 1, Rows: end().Rows}, full(), -1, api.ErrAlign}, {plan.Plan{PC: 64 + 1<<31, Many: 1, Rows: end().Rows}, full(), -1, api.ErrAlign},
	} {
		got, err := same(t, fmt.Sprint(n), c.p, c.s, r)
		var fault *api.Fault
		placed := errors.As(err, &fault)
		if got != (ir.End{}) || placed != (c.at >= 0) || !placed && err != c.want || placed && (fault.At != c.at || fault.Err != c.want) {
			t.Errorf("%d: %+v, %#v, not %v at %d", n, got, err, c.want, c.at)
		}
	}
	for n, p := range []plan.Plan{{}, end(row(what)), end(row(set(1, 1), stored(4, 0, 1, 0)))} {
		s := full()
		s.Slot = true
		for _, c := range []struct {
			s *api.State
			r *ram.Ram
		}{{nil, r}, {&s, nil}, {nil, nil}} {
			if got, err := host.Run(p, c.s, c.r); got != (ir.End{}) || err != api.ErrShape {
				t.Errorf("%d: %+v, %v", n, got, err)
			}
		}
		if s.R != full().R || s.Count != 108 || r.Words()[0] != 1 {
			t.Errorf("%d: something has changed", n)
		}
	}
}

// P110: sums of 32 bits: a plan may stand at the highest place, or an odd one.
func TestPlacesOfPlans(t *testing.T) {
	for _, pc := range []uint32{0, 1, 63, ones - 3, ones, 1 << 31} {
		s := full()
		s.PC, s.Next = pc, pc+4
		leaves(t, fmt.Sprint(pc), plan.Plan{PC: pc, Many: 2, Rows: end().Rows}, s, ram.New(nil), left(s, 2, 200))
	}
}

// P3, P4: what lies behind a list's length is neither read nor written.
func TestRunReadsUpToTheLength(t *testing.T) {
	long := row(set(1, 1), out(), set(2, 2), over(1, 1))
	all := [][]api.Op{long[:2], row(set(3, 3))}
	s := full()
	want := left(s, 3, 200)
	want.R[1] = 1
	leaves(t, "cut", planOf(all[:1]...), s, ram.New(nil), want)
	if long[2] != set(2, 2) || long[3] != over(1, 1) || all[1][0] != set(3, 3) {
		t.Error("what lies behind has changed")
	}
}

// P110: the longest plan.
func TestTheLongestPlan(t *testing.T) {
	l := slices.Repeat([][]api.Op{row(of("add", 1, 1, 2), moved(2, 1), loaded(40, 0, 4, 0), leaveIf(50, 8))}, 199)
	s := full()
	want := left(s, 3, 200)
	for range 199 {
		want.R[1], want.R[2] = want.R[1]+want.R[2], want.R[1]
	}
	leaves(t, "200 rows", end(l...), s, ram.New(nil), want)
}

// P110, P111, P2: any plans are as those worked out apart, and as they were the first time.
func TestAnyPlansAreAsWorkedOutApart(t *testing.T) {
	next := numbers(2463534242)
	trapped, gone := 0, 0
	for n := range 8000 {
		p := anyPlan(next)
		if err := plan.Check(p); err != nil {
			t.Fatalf("%+v: %v", p, err)
		}
		s, r := anyState(next, p.PC), anyMemory(next)
		m, again, memory, was, watched := machineOf(s, r), s, r.Copy(), fmt.Sprint(p), watches(r)
		want := m.run(p)
		for _, c := range []struct {
			s *api.State
			r *ram.Ram
		}{{&s, r}, {&again, memory}} {
			got, err := host.Run(p, c.s, c.r)
			if err != nil || got != want || *c.s != m.s || !slices.Equal(c.r.Words(), m.words()) {
				t.Fatalf("%d: %+v, %v, not %+v\n got %+v\nwant %+v\nof %+v", n, got, err, want, *c.s, m.s, p)
			}
			if len(c.r.Hits()) > 0 || !slices.Equal(watches(c.r), watched) || fmt.Sprint(p) != was {
				t.Fatalf("%d: hits, watches or the plan are other ones behind %+v", n, p)
			}
		}
		if want.Trap {
			trapped++
		} else {
			gone++
		}
	}
	if trapped < 1500 || gone < 1500 {
		t.Errorf("too few: %d trap, %d leave", trapped, gone)
	}
}

// program has loads and stores of all sizes, sums, checks, products and quotients, and ends in a branch.
func program() []string {
	return []string{
		"addiu $1, $1, -1", "add $2, $2, $1", "lw $3, 0($4)", "addu $5, $3, $2", "sw $5, 4($4)", "lb $6, 7($4)", "div $5, $6", "mflo $7", "mfhi $8", "sb $7, 3($4)", "lhu $9, 2($4)", "slt $10, $9, $8", "multu $3, $5", "mfhi $11", "sh $11, 4($4)", "lw $12, 4($4)", "sll $13, $12, 3", "bne $1, $0, -18", "addi $4, $4, 8",
	}
}

// planFrom a program's place and level, as they are made one of the other.
func planFrom(t *testing.T, words []uint32, pc uint32, most, level int) plan.Plan {
	t.Helper()
	l, err1 := region.Form(ram.New(words), pc, most)
	c, err2 := ir.Lower(l)
	better, err3 := opt.Opt(c, level)
	p, err4 := plan.Make(better)
	if err := errors.Join(err1, err2, err3, err4); err != nil {
		t.Fatal(err)
	}
	return p
}

// P110, P111: plans of regions are as so many steps of a processor; where they trap, nothing has changed.
func TestPlansOfRegionsAreAsAProcessor(t *testing.T) {
	words, err := asm.Assemble(program(), 0)
	if err != nil {
		t.Fatal(err)
	}
	next := numbers(99)
	trapped, gone := 0, 0
	for n := range 3000 {
		pc := uint32(n) % 18 * 4
		p := planFrom(t, words, pc, 1+n%24, n%3)
		s, b := anyState(next, pc), bus.New(words)
		s.Compare, s.R[4] = 0, 512+next()%64*4
		s.R[1], s.R[2] = next()%4, anyValue(next)
		for place := uint32(512); place < 800; place += 4 {
			b.Ram().Store(place, 4, anyValue(next))
		}
		b.Ram().Watch(0, true)
		b.Ram().Watch(int(n/100%4), true)
		was, before := s, b.Ram().Words()
		got, err := host.Run(p, &s, b.Ram())
		if err != nil {
			t.Fatal(err)
		}
		if got.Trap {
			trapped++
			if s != was || !slices.Equal(b.Ram().Words(), before) {
				t.Fatalf("%d: a trap has changed something: %+v, not %+v", n, s, was)
			}
			continue
		}
		gone++
		stepped := bus.New(before)
		cpu.Run(&was, stepped, p.Many)
		if s != was || !slices.Equal(b.Ram().Words(), stepped.Ram().Words()) || len(b.Ram().Hits()) > 0 {
			t.Fatalf("%d: behind %+v\n got %+v\nwant %+v", n, p, s, was)
		}
	}
	if trapped < 300 || gone < 300 {
		t.Errorf("too few: %d trap, %d leave", trapped, gone)
	}
}
