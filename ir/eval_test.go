package ir_test

import (
	"errors"
	"fmt"
	"math"
	"slices"
	"testing"

	"changeling/api"
	"changeling/ir"
	"changeling/ram"
)

const ones = math.MaxUint32

// full state at 64, whose fields are all their own.
func full() api.State {
	s := api.State{Hi: 101, Lo: 102, PC: 64, Next: 68, Status: 3, Cause: 104, EPC: 105, Bad: 106, Compare: 107, Count: 108}
	for n := 1; n < 32; n++ {
		s.R[n] = uint32(1000 + n)
	}
	return s
}

// left is a state behind a code of so many instructions that leaves for a place.
func left(s api.State, many int, to uint32) api.State {
	s.PC, s.Next, s.Count = to, to+4, s.Count+many
	return s
}

// codeOf ops at 64, of three instructions, with an out to 200 behind them.
func codeOf(ops ...api.Op) ir.Code {
	return ir.Code{PC: 64, Many: 3, Ops: append(slices.Clone(ops), api.Op{Kind: "out", Imm: 200, At: 2})}
}

// leaves holds what a code makes of a state against what it should be; memory is r's.
func leaves(t *testing.T, name string, c ir.Code, s api.State, r *ram.Ram, want api.State) {
	t.Helper()
	end, err := ir.Eval(c, &s, r)
	if end != (ir.End{}) || err != nil || s != want {
		t.Errorf("%s: %+v, %v\n got %+v\nwant %+v", name, end, err, s, want)
	}
}

// traps holds that a code traps, At a place, with nothing changed: neither the state, nor memory, its watched pages and hits.
func traps(t *testing.T, name string, c ir.Code, s api.State, r *ram.Ram, at int) {
	t.Helper()
	was, words := s, r.Words()
	var watched []bool
	for page := range uint32(64) {
		watched = append(watched, r.Watched(256*page))
	}
	hits := r.Copy().Hits()
	end, err := ir.Eval(c, &s, r)
	if end != (ir.End{Trap: true, At: at}) || err != nil {
		t.Errorf("%s: %+v, %v", name, end, err)
	}
	if s != was || !slices.Equal(r.Words(), words) {
		t.Errorf("%s: state or memory have changed:\n got %+v\nwant %+v", name, s, was)
	}
	for page := range uint32(64) {
		if r.Watched(256*page) != watched[page] {
			t.Errorf("%s: page %d has another watch", name, page)
		}
	}
	if got := r.Hits(); !slices.Equal(got, hits) {
		t.Errorf("%s: hits %v, not %v", name, got, hits)
	}
}

// P80: every kind with D, A and B, of all edges.
func TestResultsOfTwoRegisters(t *testing.T) {
	r := ram.New(nil)
	for _, row := range rows() {
		if row.d != 'w' || row.b != 'r' {
			continue
		}
		c := codeOf(api.Op{Kind: row.kind, D: 3, A: 1, B: 2})
		for _, a := range edges() {
			for _, b := range edges() {
				s := full()
				s.R[1], s.R[2] = a, b
				want := left(s, 3, 200)
				want.R[3] = result(row.kind, a, b, s.R[3])
				leaves(t, fmt.Sprint(row.kind, a, b), c, s, r, want)
				if divides := slices.Contains([]string{"quo", "rem", "quou", "remu"}, row.kind); !divides && ir.Result(row.kind, a, b) != want.R[3] {
					t.Errorf("%s of %d, %d: %d", row.kind, a, b, ir.Result(row.kind, a, b))
				}
			}
		}
	}
}

// P80: some, by hand.
func TestResultsByHand(t *testing.T) {
	const least, greatest = 1 << 31, 1<<31 - 1
	for _, c := range []struct {
		kind       string
		a, b, want uint32
	}{
		{"add", ones, 2, 1}, {"sub", 1, 2, ones}, {"and", 12, 10, 8}, {"or", 12, 10, 14}, {"xor", 12, 10, 6}, {"nor", 12, 10, ones - 14},
		{"slt", ones, 0, 1}, {"sltu", ones, 0, 0}, {"slt", 0, ones, 0}, {"sltu", 0, ones, 1}, {"slt", 5, 5, 0}, {"sltu", 5, 5, 0}, {"slt", least, greatest, 1}, {"sltu", least, greatest, 0},
		{"shl", 3, 31, least}, {"shl", 3, 32, 3}, {"shl", 3, 33, 6}, {"shr", least, 31, 1}, {"shr", least, ones, 1}, {"sar", least, 31, ones}, {"sar", least, 32, least}, {"sar", greatest, 30, 1},
		{"mul", ones, ones, 1}, {"mulh", ones, ones, 0}, {"mulhu", ones, ones, ones - 1}, {"mul", least, 2, 0}, {"mulh", least, 2, ones}, {"mulhu", least, 2, 1}, {"mulh", ones, 1, ones}, {"mulhu", ones, 1, 0},
		{"quo", ones - 6, 2, ones - 2}, {"rem", ones - 6, 2, ones}, {"quou", ones - 6, 2, greatest - 3}, {"remu", ones - 6, 2, 1},
		{"quo", least, ones, least}, {"rem", least, ones, 0}, {"quou", least, ones, 0}, {"remu", least, ones, least},
		{"quo", 7, 0, 1003}, {"rem", 7, 0, 1003}, {"quou", 7, 0, 1003}, {"remu", 7, 0, 1003},
	} {
		s := full()
		s.R[1], s.R[2] = c.a, c.b
		want := left(s, 3, 200)
		want.R[3] = c.want
		leaves(t, fmt.Sprint(c), codeOf(api.Op{Kind: c.kind, D: 3, A: 1, B: 2}), s, ram.New(nil), want)
	}
}

// P80: an op may write what it reads, and reads it first.
func TestAnOpWritesWhatItReads(t *testing.T) {
	s := full()
	s.R[1], s.R[2] = 20, 6
	for _, row := range rows() {
		if row.d != 'w' || row.b != 'r' {
			continue
		}
		for _, c := range []struct {
			o    api.Op
			a, b uint32
		}{
			{api.Op{Kind: row.kind, D: 1, A: 1, B: 2}, 20, 6}, {api.Op{Kind: row.kind, D: 1, A: 2, B: 1}, 6, 20}, {api.Op{Kind: row.kind, D: 1, A: 1, B: 1}, 20, 20},
			{api.Op{Kind: row.kind, D: 1, A: 1, B: 0}, 20, 0}, {api.Op{Kind: row.kind, D: 1, A: 0, B: 1}, 0, 20},
		} {
			want := left(s, 3, 200)
			want.R[1] = result(row.kind, c.a, c.b, 20)
			leaves(t, fmt.Sprint(c.o), codeOf(c.o), s, ram.New(nil), want)
		}
	}
}

// P80: each register is its own: the guest's, Hi, Lo; others are 0 at first, and gone at the end.
func TestRegistersOfACode(t *testing.T) {
	for d := 1; d < api.Temps; d++ {
		s := full()
		want := left(s, 3, 200)
		switch {
		case d < 32:
			want.R[d] = 77
		case d == api.Hi:
			want.Hi = 77
		case d == api.Lo:
			want.Lo = 77
		}
		leaves(t, fmt.Sprint("set ", d), codeOf(api.Op{Kind: "set", D: d, Imm: 77}), s, ram.New(nil), want)
	}
	for a := range api.Temps {
		s := full()
		want := left(s, 3, 200)
		switch {
		case a == 0 || a > api.Lo:
			want.R[9] = 0
		case a == api.Hi:
			want.R[9] = s.Hi
		case a == api.Lo:
			want.R[9] = s.Lo
		default:
			want.R[9] = s.R[a]
		}
		c := codeOf(api.Op{Kind: "copy", D: 9, A: a})
		if a > api.Lo {
			c.Ops = slices.Insert(c.Ops, 1, api.Op{Kind: "set", D: a, Imm: 5})
		}
		leaves(t, fmt.Sprint("copy ", a), c, s, ram.New(nil), want)
		leaves(t, fmt.Sprint("copy again ", a), c, s, ram.New(nil), want)
	}
}

// P80, P82
func TestOver(t *testing.T) {
	for _, a := range edges() {
		for _, b := range edges() {
			s := full()
			s.R[1], s.R[2] = a, b
			for kind, v := range map[string]int64{"over+": int64(int32(a)) + int64(int32(b)), "over-": int64(int32(a)) - int64(int32(b))} {
				c, name := codeOf(api.Op{Kind: "set", D: 3, Imm: 7}, api.Op{Kind: kind, A: 1, B: 2, At: 1}), fmt.Sprint(kind, a, b)
				if v != int64(int32(v)) {
					traps(t, name, c, s, ram.New(nil), 1)
					continue
				}
				want := left(s, 3, 200)
				want.R[3] = 7
				leaves(t, name, c, s, ram.New(nil), want)
			}
		}
	}
}

// P80: the address comes round behind the highest one.
func TestLoads(t *testing.T) {
	r := ram.New([]uint32{0x01828384, 0x7F0080FF})
	r.Store(16380, 4, 0xC0D0E0F0)
	r.Watch(0, true)
	for _, c := range []struct {
		base, imm uint32
		bytes     int
		want      uint32
	}{
		{0, 0, 4, 0x01828384}, {0, 4, 4, 0x7F0080FF}, {4, 0, 4, 0x7F0080FF}, {8, 1<<32 - 4, 4, 0x7F0080FF}, {1<<32 - 4, 8, 4, 0x7F0080FF}, {1 << 31, 1 << 31, 4, 0x01828384},
		{0, 0, 2, 0x0182}, {0, 2, 2, 0x8384}, {0, 2, -2, 0xFFFF8384}, {0, 4, -2, 0x7F00}, {1, 5, -2, 0xFFFF80FF}, {3, ones, 2, 0x8384},
		{0, 0, 1, 1}, {0, 1, 1, 0x82}, {0, 1, -1, 0xFFFFFF82}, {0, 4, -1, 0x7F}, {3, 2, -1, 0}, {3, 4, -1, ones}, {3, 4, 1, 255},
		{16380, 0, 4, 0xC0D0E0F0}, {16380, 2, -2, 0xFFFFE0F0}, {16380, 3, 1, 0xF0}, {16380, 3, -1, 0xFFFFFFF0}, {8, 0, 4, 0},
	} {
		s := full()
		s.R[1] = c.base
		want := left(s, 3, 200)
		want.R[2] = c.want
		leaves(t, fmt.Sprint(c), codeOf(api.Op{Kind: "load", D: 2, A: 1, B: c.bytes, Imm: c.imm}), s, r, want)
		want.R[2], want.R[1] = s.R[2], c.want
		leaves(t, fmt.Sprint(c, " to its own base"), codeOf(api.Op{Kind: "load", D: 1, A: 1, B: c.bytes, Imm: c.imm}), s, r, want)
	}
}

// P80
func TestStores(t *testing.T) {
	for _, c := range []struct {
		base, imm   uint32
		bytes       int
		place, want uint32
	}{
		{0, 8, 4, 2, 0xA1B2C3D4}, {8, 0, 4, 2, 0xA1B2C3D4}, {12, 1<<32 - 4, 4, 2, 0xA1B2C3D4}, {1<<32 - 4, 12, 4, 2, 0xA1B2C3D4},
		{0, 8, 2, 2, 0xC3D41111}, {0, 10, 2, 2, 0x1111C3D4}, {0, 8, 1, 2, 0xD4111111}, {3, 6, 1, 2, 0x11D41111}, {0, 10, 1, 2, 0x1111D411}, {0, 11, 1, 2, 0x111111D4},
		{16380, 0, 4, 4095, 0xA1B2C3D4}, {16380, 3, 1, 4095, 0x111111D4}, {0, 0, 4, 0, 0xA1B2C3D4},
	} {
		words := slices.Repeat([]uint32{0x11111111}, 4096)
		r := ram.New(words)
		s := full()
		s.R[1], s.R[2] = c.base, 0xA1B2C3D4
		leaves(t, fmt.Sprint(c), codeOf(api.Op{Kind: "store", D: c.bytes, A: 1, B: 2, Imm: c.imm}), s, r, left(s, 3, 200))
		words[c.place] = c.want
		if !slices.Equal(r.Words(), words) || len(r.Hits()) > 0 {
			t.Errorf("%v: memory is not as it should be", c)
		}
	}
}

// P80: a load sees all stores ahead of it, whatever part of it they are, the last one first.
func TestLoadsBehindStores(t *testing.T) {
	sizes := []int{1, 2, 4}
	s := full()
	s.R[1], s.R[2] = 0xA1B2C3D4, 0x15263748
	for _, first := range sizes {
		for _, second := range sizes {
			for _, size := range []int{1, 2, 4, -1, -2} {
				for a := 0; a < 8; a += first {
					for b := 0; b < 8; b += second {
						for at := 0; at < 8; at += max(size, -size) {
							c := codeOf(api.Op{Kind: "store", D: first, B: 1, Imm: uint32(a)}, api.Op{Kind: "store", D: second, B: 2, Imm: uint32(b)}, api.Op{Kind: "load", D: 3, B: size, Imm: uint32(at)})
							r := ram.New([]uint32{0x51627384, 0x95A6B7C8})
							g := guestOf(s, r)
							g.eval(c)
							leaves(t, fmt.Sprint(c.Ops), c, s, r, g.s)
							if !slices.Equal(r.Words(), g.words()) {
								t.Errorf("%v: memory is not as it should be", c.Ops)
							}
						}
					}
				}
			}
		}
	}
}

// P82, P84: registers and stores ahead of a trap are as if they had not been.
func TestTrapsChangeNothing(t *testing.T) {
	s := full()
	s.R[1], s.R[2], s.R[3] = 1<<31, 1, 1<<31-1
	for _, o := range []api.Op{
		{Kind: "over+", A: 1, B: 1}, {Kind: "over+", A: 3, B: 2}, {Kind: "over-", A: 1, B: 2}, {Kind: "over-", A: 0, B: 1},
		{Kind: "load", D: 4, B: 4, Imm: 1}, {Kind: "load", D: 4, B: 4, Imm: 2}, {Kind: "load", D: 4, B: 4, Imm: 3}, {Kind: "load", D: 4, B: 2, Imm: 1}, {Kind: "load", D: 4, B: -2, Imm: 3}, {Kind: "load", D: 4, A: 2, B: 4},
		{Kind: "load", D: 4, B: 4, Imm: api.RamSize}, {Kind: "load", D: 4, B: 1, Imm: api.RamSize}, {Kind: "load", D: 4, B: -1, Imm: ones}, {Kind: "load", D: 4, B: 4, Imm: api.Console}, {Kind: "load", D: 4, B: 4, Imm: api.Clock}, {Kind: "load", D: 40, B: 4, Imm: api.Lamp}, {Kind: "load", D: 4, B: 4, Imm: api.LastIO}, {Kind: "load", D: 4, A: 1, B: 1},
		{Kind: "store", D: 4, Imm: 1}, {Kind: "store", D: 4, Imm: 2}, {Kind: "store", D: 4, Imm: 3}, {Kind: "store", D: 2, Imm: 1}, {Kind: "store", D: 2, A: 2}, {Kind: "store", D: 4, A: 3},
		{Kind: "store", D: 4, Imm: api.RamSize}, {Kind: "store", D: 1, Imm: api.RamSize}, {Kind: "store", D: 1, Imm: ones}, {Kind: "store", D: 4, Imm: api.Console}, {Kind: "store", D: 4, Imm: api.Lamp}, {Kind: "store", D: 4, A: 1, Imm: 4},
		{Kind: "store", D: 4, Imm: 256}, {Kind: "store", D: 1, Imm: 511}, {Kind: "store", D: 2, Imm: 300, B: 2}, {Kind: "store", D: 1, Imm: api.RamSize - 1}, {Kind: "store", D: 4, Imm: api.RamSize - 256},
	} {
		r := ram.New([]uint32{1, 2, 3, 4})
		for _, page := range []int{1, 2, 63} {
			r.Watch(page, true)
		}
		r.Store(600, 4, 9)
		for at := range 3 {
			o.At = at
			alone := ir.Code{PC: 64, Many: 3, Ops: []api.Op{o, {Kind: "out", At: 2}}}
			traps(t, fmt.Sprint(o, " alone"), alone, s, r, at)
			behind := codeOf(api.Op{Kind: "set", D: 9, Imm: 77}, api.Op{Kind: "copy", D: api.Hi, A: 9}, api.Op{Kind: "mul", D: api.Lo, A: 9, B: 9}, api.Op{Kind: "store", D: 4, B: 9}, api.Op{Kind: "store", D: 1, B: 9, Imm: 255}, api.Op{Kind: "load", D: 10, B: 4}, api.Op{Kind: "if", A: 50, Imm: 8}, o)
			traps(t, fmt.Sprint(o, " behind others"), behind, s, r, at)
			behind.Ops = slices.Insert(behind.Ops, 8, api.Op{Kind: "over+", A: 1, B: 1, At: 2})
			traps(t, fmt.Sprint(o, " ahead of another trap"), behind, s, r, at)
			// Hits were told, and are gone: the next round has one again.
			r.Store(600, 4, 9)
		}
	}
}

// P82: a page counts as watched while it is; loads make no difference.
func TestWatchedPages(t *testing.T) {
	s := full()
	r := ram.New(nil)
	for n, c := range []struct {
		page int
		on   bool
		imm  uint32
		trap bool
	}{{1, true, 252, false}, {1, true, 256, true}, {1, true, 508, true}, {1, true, 512, false}, {1, false, 256, false}, {0, true, 0, true}, {0, true, 256, false}, {63, true, 16380, true}, {63, false, 16380, false}} {
		r.Watch(c.page, c.on)
		code := codeOf(api.Op{Kind: "load", D: 40, B: 4, Imm: c.imm}, api.Op{Kind: "store", D: 4, B: 5, Imm: c.imm, At: 1}, api.Op{Kind: "load", D: 41, B: 4, Imm: c.imm, At: 2})
		if c.trap {
			traps(t, fmt.Sprint(n), code, s, r, 1)
			continue
		}
		leaves(t, fmt.Sprint(n), code, s, r, left(s, 3, 200))
		if v, _ := r.Load(c.imm, 4, false); v != s.R[5] || len(r.Hits()) > 0 {
			t.Errorf("%d: %d is there", n, v)
		}
	}
}

// P82: hits that others made stay.
func TestHitsStay(t *testing.T) {
	r := ram.New(nil)
	r.Watch(3, true)
	r.Store(768, 4, 1)
	r.Watch(3, false)
	s := full()
	leaves(t, "a store", codeOf(api.Op{Kind: "store", D: 4, B: 5, Imm: 768}), s, r, left(s, 3, 200))
	if got := r.Hits(); !slices.Equal(got, []int{3}) {
		t.Errorf("hits: %v", got)
	}
}

// P80, P82: where it leaves for.
func TestLeaving(t *testing.T) {
	s := full()
	s.R[1] = ones - 2
	at := func(o ...api.Op) ir.Code { return codeOf(o...) }
	for name, c := range map[string]struct {
		code ir.Code
		to   uint32
	}{
		"out":                       {at(), 200},
		"if of 0":                   {at(api.Op{Kind: "if", A: 0, Imm: 12}), 200},
		"if of another 0":           {at(api.Op{Kind: "if", A: 50, Imm: 12}), 200},
		"if":                        {at(api.Op{Kind: "if", A: 2, Imm: 12}), 12},
		"if of Lo":                  {at(api.Op{Kind: "if", A: api.Lo, Imm: 12}), 12},
		"two ifs":                   {at(api.Op{Kind: "if", A: 0, Imm: 12}, api.Op{Kind: "if", A: 2, Imm: 16}), 16},
		"the first of two ifs":      {at(api.Op{Kind: "if", A: 2, Imm: 12}, api.Op{Kind: "if", A: 2, Imm: 16}), 12},
		"an if, then a trap":        {at(api.Op{Kind: "if", A: 2, Imm: 12}, api.Op{Kind: "load", D: 1, B: 4, Imm: 1}), 12},
		"an if, then what is lost":  {at(api.Op{Kind: "if", A: 2, Imm: 12, At: 1}, api.Op{Kind: "set", D: 5, Imm: 1, At: 1}, api.Op{Kind: "store", D: 4, B: 2, At: 2}), 12},
		"no place of memory":        {at(api.Op{Kind: "if", A: 2, Imm: ones}), ones},
		"one that is odd":           {at(api.Op{Kind: "if", A: 2, Imm: 7}), 7},
		"outr":                      {ir.Code{PC: 64, Many: 3, Ops: []api.Op{{Kind: "outr", A: 2}}}, 1002},
		"outr of the highest place": {ir.Code{PC: 64, Many: 3, Ops: []api.Op{{Kind: "outr", A: 1}}}, ones - 2},
		"outr of 0":                 {ir.Code{PC: 64, Many: 3, Ops: []api.Op{{Kind: "outr", A: 0}}}, 0},
		"outr of Hi":                {ir.Code{PC: 64, Many: 3, Ops: []api.Op{{Kind: "outr", A: api.Hi}}}, 101},
		"outr of what was made":     {ir.Code{PC: 64, Many: 3, Ops: []api.Op{{Kind: "set", D: 63, Imm: 96}, {Kind: "outr", A: 63}}}, 96},
		"the place itself":          {at(api.Op{Kind: "if", A: 2, Imm: 64}), 64},
	} {
		r := ram.New([]uint32{9})
		leaves(t, name, c.code, s, r, left(s, 3, c.to))
		if !slices.Equal(r.Words(), ram.New([]uint32{9}).Words()) {
			t.Errorf("%s: memory has changed", name)
		}
	}
	for _, many := range []int{1, 2, 24} {
		leaves(t, fmt.Sprint(many), ir.Code{PC: 64, Many: many, Ops: []api.Op{{Kind: "out", Imm: 8}}}, s, ram.New(nil), left(s, many, 8))
	}
}

// P82: what was done ahead of the if at which it leaves is there.
func TestWhatIsAheadOfAnIfIsThere(t *testing.T) {
	s := full()
	r := ram.New(nil)
	want := left(s, 3, 12)
	want.R[5], want.Hi = 7, 7
	leaves(t, "if", codeOf(api.Op{Kind: "set", D: 5, Imm: 7}, api.Op{Kind: "copy", D: api.Hi, A: 5}, api.Op{Kind: "store", D: 4, B: 5, Imm: 8}, api.Op{Kind: "store", D: 1, B: 5, Imm: 8}, api.Op{Kind: "if", A: 5, Imm: 12}, api.Op{Kind: "set", D: 6}, api.Op{Kind: "store", D: 4, Imm: 8}), s, r, want)
	if words := r.Words(); words[2] != 0x07000007 {
		t.Errorf("%08x", words[2])
	}
}

// P80: eight stores, the last ones over the first ones.
func TestAsManyStoresAsThereMayBe(t *testing.T) {
	s := full()
	r := ram.New(nil)
	var ops []api.Op
	for n := range api.Gate {
		ops = append(ops, api.Op{Kind: "store", D: []int{4, 2, 1, 1}[n%4], B: n + 1, Imm: uint32(n / 4 * 2)})
	}
	ops[4].Imm = 0
	g := guestOf(s, r)
	c := codeOf(ops...)
	g.eval(c)
	leaves(t, "eight", c, s, r, g.s)
	if !slices.Equal(r.Words(), g.words()) {
		t.Errorf("%08x, not %08x", r.Words()[:2], g.words()[:2])
	}
}

// P82, P3: errors in their order; nothing changes.
func TestErrorsOfEval(t *testing.T) {
	well, wrong := codeOf(api.Op{Kind: "set", D: 1, Imm: 7}, api.Op{Kind: "store", D: 4, B: 1}), codeOf(api.Op{Kind: "what"})
	slot, place, next, before, round := full(), full(), full(), full(), full()
	slot.Slot, place.PC, place.Next, next.Next, before.PC, before.Next = true, 68, 72, 72, 60, 64
	round.PC = 64 + 1<<16
	r := ram.New([]uint32{5})
	fine := full()
	for n, c := range []struct {
		code ir.Code
		s    *api.State
		r    *ram.Ram
		at   int
		err  error
	}{
		{well, nil, r, -1, api.ErrShape}, {well, &fine, nil, -1, api.ErrShape}, {well, nil, nil, -1, api.ErrShape}, {wrong, nil, r, -1, api.ErrShape}, {ir.Code{}, &fine, nil, -1, api.ErrShape}, {well, &slot, nil, -1, api.ErrShape},
		{ir.Code{}, &fine, r, -1, api.ErrBound}, {ir.Code{PC: 64, Many: 1, Ops: make([]api.Op, 201)}, &fine, r, -1, api.ErrFull}, {ir.Code{PC: 64, Many: 1}, &fine, r, -1, api.ErrShape}, {ir.Code{PC: 64, Many: 1}, &slot, r, -1, api.ErrShape},
		{wrong, &fine, r, 0, api.ErrKind}, {wrong, &slot, r, 0, api.ErrKind}, {wrong, &place, r, 0, api.ErrKind}, {codeOf(api.Op{Kind: "set"}), &next, r, 0, api.ErrBound},
		{well, &slot, r, -1, api.ErrAlign}, {well, &place, r, -1, api.ErrAlign}, {well, &next, r, -1, api.ErrAlign}, {well, &before, r, -1, api.ErrAlign}, {well, &round, r, -1, api.ErrAlign},
	} {
		var was api.State
		if c.s != nil {
			was = *c.s
		}
		end, err := ir.Eval(c.code, c.s, c.r)
		var fault *api.Fault
		placed := errors.As(err, &fault)
		if end != (ir.End{}) || !errors.Is(err, c.err) || placed != (c.at >= 0) || placed && fault.At != c.at {
			t.Errorf("%d: %v, %v, not %v at %d", n, end, err, c.err, c.at)
		}
		if c.s != nil && *c.s != was || !slices.Equal(r.Words(), ram.New([]uint32{5}).Words()) {
			t.Errorf("%d: state or memory have changed", n)
		}
	}
}

// P82: PC may be any; Next comes round behind the highest one.
func TestEvalAtAnyPlace(t *testing.T) {
	for _, pc := range []uint32{0, 2, api.RamSize, api.Console, ones - 3, ones} {
		s := full()
		s.PC, s.Next = pc, pc+4
		leaves(t, fmt.Sprint(pc), ir.Code{PC: pc, Many: 2, Ops: []api.Op{{Kind: "out", Imm: 8}}}, s, ram.New(nil), left(s, 2, 8))
	}
}

// P1: memory that ram.New did not make is all 0, and may be stored into.
func TestEvalOfMemoryThatNobodyMade(t *testing.T) {
	r := &ram.Ram{}
	s := full()
	want := left(s, 3, 200)
	want.R[4], want.R[6] = 0, s.R[5]
	leaves(t, "zero", codeOf(api.Op{Kind: "load", D: 4, B: 4}, api.Op{Kind: "store", D: 4, B: 5, Imm: 8}, api.Op{Kind: "load", D: 6, B: 4, Imm: 8}), s, r, want)
	if v, err := r.Load(8, 4, false); v != s.R[5] || err != nil {
		t.Error(v, err)
	}
}

// P2: the same again, whatever was evaluated between.
func TestEvalKeepsNothing(t *testing.T) {
	c := codeOf(api.Op{Kind: "add", D: 63, A: 63, B: 5}, api.Op{Kind: "store", D: 4, B: 63}, api.Op{Kind: "copy", D: 6, A: 63})
	s := full()
	want := left(s, 3, 200)
	want.R[6] = s.R[5]
	for range 3 {
		r := ram.New(nil)
		leaves(t, "again", c, s, r, want)
		traps(t, "between", codeOf(append(c.Ops[:2:2], api.Op{Kind: "load", D: 1, B: 4, Imm: 2})...), s, r, 0)
	}
}
