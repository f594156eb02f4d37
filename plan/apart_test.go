package plan_test

import (
	"slices"

	"changeling/api"
	"changeling/ir"
	"changeling/plan"
	"changeling/ram"
	"changeling/word"
)

// folds are the kinds with D, A and B, but load, store and the four of Div.
func folds() []string {
	return []string{"add", "sub", "and", "or", "xor", "nor", "slt", "sltu", "shl", "shr", "sar", "mul", "mulh", "mulhu"}
}

func fourOfDiv() []string { return []string{"quo", "rem", "quou", "remu"} }

// plainKinds are those of which P101 asks that rows be one, if they can.
func plainKinds() []string { return slices.Concat([]string{"set", "copy"}, folds(), fourOfDiv()) }

func allKinds() []string {
	return append(plainKinds(), "over+", "over-", "load", "store", "if", "out", "outr")
}

func isPlain(o api.Op) bool { return slices.Contains(plainKinds(), o.Kind) }

// touches tells whether an op reads or writes a register that is not 0.
func touches(o api.Op, register int) bool {
	switch o.Kind {
	case "set":
		return o.D == register
	case "copy", "load":
		return o.D == register || o.A == register
	case "over+", "over-", "store":
		return o.A == register || o.B == register
	case "if", "outr":
		return o.A == register
	case "out":
		return false
	}
	return o.D == register || o.A == register || o.B == register
}

// couldBeOne by P101's words: two rows of a plan that stand side by side.
func couldBeOne(a, b []api.Op) bool {
	if len(a)+len(b) > 3 {
		return false
	}
	for _, x := range a {
		for _, y := range b {
			if !isPlain(x) || !isPlain(y) || touches(x, y.D) || touches(y, x.D) {
				return false
			}
		}
	}
	return true
}

// machine runs plans row by row as chapter 11 has it, on a memory of its own, which it gives up where it traps.
type machine struct {
	x      [api.Temps]uint32
	memory *ram.Ram
}

// change is what an op does when its row has read: it writes a register, or bytes, or leaves.
type change struct {
	register int
	bytes    int
	addr     uint32
	value    uint32
	leaves   bool
}

// read what an op needs, and tell what it will do; false: it traps.
func (m *machine) read(o api.Op) (change, bool) {
	a, b := m.x[o.A], uint32(0)
	if o.Kind != "load" {
		b = m.x[o.B]
	}
	switch o.Kind {
	case "set":
		return change{register: o.D, value: o.Imm}, true
	case "copy":
		return change{register: o.D, value: a}, true
	case "over+":
		_, over := word.Add(a, b)
		return change{}, !over
	case "over-":
		_, over := word.Sub(a, b)
		return change{}, !over
	case "load":
		v, err := m.memory.Load(a+o.Imm, max(o.B, -o.B), o.B < 0)
		return change{register: o.D, value: v}, err == nil
	case "store":
		_, err := m.memory.Load(a+o.Imm, o.D, false)
		return change{bytes: o.D, addr: a + o.Imm, value: b}, err == nil && !m.memory.Watched(a+o.Imm)
	case "if":
		return change{leaves: a != 0, value: o.Imm}, true
	case "out":
		return change{leaves: true, value: o.Imm}, true
	case "outr":
		return change{leaves: true, value: a}, true
	}
	if slices.Contains(folds(), o.Kind) {
		return change{register: o.D, value: ir.Result(o.Kind, a, b)}, true
	}
	q, r, ok := word.Div(a, b, o.Kind == "quo" || o.Kind == "rem")
	switch {
	case !ok:
		return change{register: o.D, value: m.x[o.D]}, true
	case o.Kind == "quo" || o.Kind == "quou":
		return change{register: o.D, value: q}, true
	}
	return change{register: o.D, value: r}, true
}

// row is done at once: where it leaves for, if it does; trap: one of its ops did.
func (m *machine) row(row []api.Op) (to uint32, leaves, trap bool) {
	var l []change
	for _, o := range row {
		c, ok := m.read(o)
		if !ok {
			return 0, false, true
		}
		l = append(l, c)
	}
	for _, c := range l {
		switch {
		case c.leaves:
			to, leaves = c.value, true
		case c.bytes > 0:
			m.memory.Store(c.addr, c.bytes, c.value)
		case c.register > 0:
			m.x[c.register] = c.value
		}
	}
	return to, leaves, false
}

// runApart runs a plan that is well; what was handed over stays as it is.
func runApart(p plan.Plan, s api.State, r *ram.Ram) (trap bool, left api.State, words []uint32) {
	m := &machine{memory: r.Copy()}
	copy(m.x[:], s.R[:])
	m.x[api.Hi], m.x[api.Lo] = s.Hi, s.Lo
	for _, row := range p.Rows {
		to, leaves, trap := m.row(row)
		if trap {
			break
		}
		if leaves {
			left = s
			copy(left.R[:], m.x[:])
			left.Hi, left.Lo, left.PC, left.Next = m.x[api.Hi], m.x[api.Lo], to, to+4
			left.Count += p.Many
			return false, left, m.memory.Words()
		}
	}
	return true, s, r.Words()
}

// numbers tells words from a fixed rule, each time another one.
func numbers(x uint32) func() uint32 {
	return func() uint32 {
		x ^= x << 13
		x ^= x >> 17
		x ^= x << 5
		return x
	}
}

func edges() []uint32 {
	return []uint32{0, 1, 2, 3, 31, 32, 33, 255, 65535, 65536, 1<<31 - 1, 1 << 31, 1<<31 + 1, 1<<32 - 2, 1<<32 - 1}
}

// anyValue is an edge, an address of memory, or any.
func anyValue(next func() uint32) uint32 {
	switch next() % 4 {
	case 0:
		return next()
	case 1:
		return next() % 1024 &^ 3
	}
	return edges()[next()%uint32(len(edges()))]
}

// anyOp of some registers, of which the first is 0; loads and stores are mostly of few addresses that are there.
func anyOp(next func() uint32, registers []int, kind string, at int) api.Op {
	register := func() int { return registers[next()%uint32(len(registers))] }
	written := func() int { return registers[1+next()%uint32(len(registers)-1)] }
	o := api.Op{Kind: kind, At: at}
	switch kind {
	case "set":
		o.D, o.Imm = written(), anyValue(next)
	case "load":
		o.D, o.B, o.Imm = written(), []int{1, 2, 4, -1, -2}[next()%5], next()%4*4
	case "store":
		o.D, o.B, o.Imm = []int{1, 2, 4}[next()%3], register(), next()%4*4
	case "if":
		o.A, o.Imm = register(), next()
	case "out":
		o.Imm = next()
	case "outr":
		o.A = register()
	case "over+", "over-":
		o.A, o.B = register(), register()
	case "copy":
		o.D, o.A = written(), register()
	default:
		o.D, o.A, o.B = written(), register(), register()
	}
	if (kind == "load" || kind == "store") && next()%6 == 0 {
		o.A, o.Imm = register(), anyValue(next)
	}
	return o
}

// anyRegisters, few or many, so that ops meet often or seldom.
func anyRegisters(next func() uint32) []int {
	registers := []int{0, 1, 34, 33, 2, 35, 32, 31, 63, 3, 36, 4, 37, 5, 38, 6, 39, 7, 40, 8}
	return registers[:3+next()%18]
}

// anyCode that is well; a third of the ops ahead of its end are sets and copies, and few of them can end it.
func anyCode(next func() uint32) ir.Code {
	c := ir.Code{PC: anyValue(next), Many: int(1 + next()%24)}
	kinds, registers := allKinds(), anyRegisters(next)
	at, stores := 0, 0
	for range next() % 40 {
		kind := kinds[next()%uint32(len(kinds))]
		switch {
		case next()%3 == 0:
			kind = kinds[next()%2]
		case kind == "out" || kind == "outr" || kind == "store" && stores == 8 || (kind == "if" || kind == "over+" || kind == "over-") && next()%3 > 0:
			continue
		}
		if kind == "store" {
			stores++
		}
		at = min(at+int(next()%3), c.Many-1)
		c.Ops = append(c.Ops, anyOp(next, registers, kind, at))
	}
	c.Ops = append(c.Ops, anyOp(next, registers, []string{"out", "outr"}[next()%2], c.Many-1))
	return c
}

// anyState at a place.
func anyState(next func() uint32, pc uint32) api.State {
	s := api.State{Hi: anyValue(next), Lo: anyValue(next), PC: pc, Next: pc + 4, Status: next() % 4, Cause: next(), EPC: next(), Bad: next(), Compare: next(), Count: int(next())}
	for n := 1; n < 32; n++ {
		s.R[n] = anyValue(next)
	}
	return s
}

// anyMemory, of which a page may be watched.
func anyMemory(next func() uint32) *ram.Ram {
	words := make([]uint32, 300)
	for n := range words {
		words[n] = next()
	}
	r := ram.New(words)
	if next()%4 == 0 {
		r.Watch(int(next()%5), true)
	}
	return r
}
