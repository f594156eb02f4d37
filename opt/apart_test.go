package opt_test

import (
	"slices"

	"changeling/api"
	"changeling/ir"
	"changeling/ram"
)

// row of the kinds' table: its registers that are read, D, A or B by their letters, in the order in which Reads tells them, and whether D is one that is written.
type row struct {
	kind   string
	reads  string
	writes bool
}

// folds are the kinds whose ops may be KNOWN.
func folds() []string {
	return []string{"add", "sub", "and", "or", "xor", "nor", "slt", "sltu", "shl", "shr", "sar", "mul", "mulh", "mulhu"}
}

func fourOfDiv() []string { return []string{"quo", "rem", "quou", "remu"} }

func rows() []row {
	l := []row{{"set", "", true}, {"copy", "A", true}, {"over+", "AB", false}, {"over-", "AB", false}, {"load", "A", true}, {"store", "AB", false}, {"if", "A", false}, {"out", "", false}, {"outr", "A", false}}
	for _, kind := range folds() {
		l = append(l, row{kind, "AB", true})
	}
	for _, kind := range fourOfDiv() {
		l = append(l, row{kind, "ABD", true})
	}
	return l
}

func rowOf(kind string) row {
	for _, r := range rows() {
		if r.kind == kind {
			return r
		}
	}
	return row{}
}

func readsOf(o api.Op) []int {
	var l []int
	for _, letter := range rowOf(o.Kind).reads {
		l = append(l, map[rune]int{'A': o.A, 'B': o.B, 'D': o.D}[letter])
	}
	return l
}

func writesTo(o api.Op, register int) bool { return rowOf(o.Kind).writes && o.D == register }

// knownRegister looks for the nearest op ahead of a place that writes a register.
func knownRegister(ops []api.Op, place, register int) bool {
	for n := place - 1; n >= 0; n-- {
		if writesTo(ops[n], register) {
			return ops[n].Kind == "set"
		}
	}
	return register == 0
}

// knownOps of a code that is well, one by one by P90's words.
func knownOps(ops []api.Op) int {
	count := 0
	for n, o := range ops {
		if slices.Contains(folds(), o.Kind) && knownRegister(ops, n, o.A) && knownRegister(ops, n, o.B) {
			count++
		}
	}
	return count
}

// isDead goes from an op on to the next one that writes its register; that one reads ahead of it.
func isDead(ops []api.Op, place int) bool {
	o, behindIf := ops[place], false
	if !rowOf(o.Kind).writes || o.Kind == "load" {
		return false
	}
	for _, next := range ops[place+1:] {
		switch {
		case slices.Contains(readsOf(next), o.D):
			return false
		case next.Kind == "if":
			behindIf = true
		case writesTo(next, o.D):
			return o.D > 33 || !behindIf
		}
	}
	return o.D > 33
}

func deadOps(ops []api.Op) int {
	count := 0
	for n := range ops {
		if isDead(ops, n) {
			count++
		}
	}
	return count
}

// numbers tells words from a fixed rule, each time another one.
func numbers(x uint32) func() uint32 {
	return func() uint32 {
		x ^= x << 13
		x ^= x >> 17
		x ^= x << 5
		return x
	}
}

func edges() []uint32 {
	return []uint32{0, 1, 2, 3, 31, 32, 33, 255, 65535, 65536, 1<<31 - 1, 1 << 31, 1<<31 + 1, 1<<32 - 2, 1<<32 - 1}
}

// anyValue is an edge, an address of memory, or any.
func anyValue(next func() uint32) uint32 {
	switch next() % 4 {
	case 0:
		return next()
	case 1:
		return next() % 1024 &^ 3
	}
	return edges()[next()%uint32(len(edges()))]
}

// anyOp of few registers, so that they meet; loads and stores are mostly of few addresses that are there.
func anyOp(next func() uint32, kind string, at int) api.Op {
	registers := []int{0, 1, 2, 31, 32, 33, 34, 35, 63}
	register := func() int { return registers[next()%9] }
	written := func() int { return registers[1+next()%8] }
	o := api.Op{Kind: kind, At: at}
	switch kind {
	case "set":
		o.D, o.Imm = written(), anyValue(next)
	case "load":
		o.D, o.B, o.Imm = written(), []int{1, 2, 4, -1, -2}[next()%5], next()%32*4
	case "store":
		o.D, o.B, o.Imm = []int{1, 2, 4}[next()%3], register(), next()%32*4
	case "if":
		o.A, o.Imm = register(), next()
	case "out":
		o.Imm = next()
	case "outr":
		o.A = register()
	case "over+", "over-":
		o.A, o.B = register(), register()
	case "copy":
		o.D, o.A = written(), register()
	default:
		o.D, o.A, o.B = written(), register(), register()
	}
	if (kind == "load" || kind == "store") && next()%8 == 0 {
		o.A, o.Imm = register(), anyValue(next)
	}
	return o
}

// anyCode that is well; half of the ops ahead of its end are sets and copies, and few of them can end it.
func anyCode(next func() uint32) ir.Code {
	c := ir.Code{PC: anyValue(next), Many: int(1 + next()%24)}
	kinds := rows()
	at, stores := 0, 0
	for range next() % 40 {
		kind := kinds[next()%uint32(len(kinds))].kind
		switch {
		case next()%3 == 0:
			kind = kinds[next()%2].kind
		case kind == "out" || kind == "outr" || kind == "store" && stores == 8 || (kind == "if" || kind == "over+" || kind == "over-") && next()%3 > 0:
			continue
		}
		if kind == "store" {
			stores++
		}
		at = min(at+int(next()%3), c.Many-1)
		c.Ops = append(c.Ops, anyOp(next, kind, at))
	}
	c.Ops = append(c.Ops, anyOp(next, []string{"out", "outr"}[next()%2], c.Many-1))
	return c
}

// anyState at a place.
func anyState(next func() uint32, pc uint32) api.State {
	s := api.State{Hi: anyValue(next), Lo: anyValue(next), PC: pc, Next: pc + 4, Status: next() % 4, Cause: next(), EPC: next(), Bad: next(), Compare: next(), Count: int(next())}
	for n := 1; n < 32; n++ {
		s.R[n] = anyValue(next)
	}
	return s
}

// anyMemory, of which a page may be watched.
func anyMemory(next func() uint32) *ram.Ram {
	words := make([]uint32, 300)
	for n := range words {
		words[n] = next()
	}
	r := ram.New(words)
	if next()%4 == 0 {
		r.Watch(int(next()%5), true)
	}
	return r
}
