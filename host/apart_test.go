package host_test

import (
	"changeling/api"
	"changeling/ir"
	"changeling/plan"
	"changeling/ram"
)

// machine runs plans as chapter 11 has it, worked out apart from the packages. Its memory has what waits at once: nobody but its plan looks at it ahead of the end.
type machine struct {
	s       api.State
	x       [64]uint32
	bytes   [api.RamSize]byte
	watched [64]bool
}

// machineOf a state and memory.
func machineOf(s api.State, r *ram.Ram) *machine {
	m := &machine{s: s}
	for n, w := range r.Words() {
		m.bytes[4*n], m.bytes[4*n+1], m.bytes[4*n+2], m.bytes[4*n+3] = byte(w>>24), byte(w>>16), byte(w>>8), byte(w)
	}
	for n := range m.watched {
		m.watched[n] = r.Watched(uint32(256 * n))
	}
	return m
}

func signed(a uint32) int64 {
	if a >= 1<<31 {
		return int64(a) - 1<<32
	}
	return int64(a)
}

func isWord(v int64) bool { return v >= -1<<31 && v < 1<<31 }

func truth(yes bool) uint32 {
	if yes {
		return 1
	}
	return 0
}

// result of a kind with D, A and B; was is what D has.
func result(kind string, a, b, was uint32) uint32 {
	by := uint64(1) << (b % 32)
	switch kind {
	case "add":
		return uint32(signed(a) + signed(b))
	case "sub":
		return uint32(signed(a) - signed(b))
	case "and":
		return a & b
	case "or":
		return a ^ b ^ a&b
	case "xor":
		return (a &^ b) | (b &^ a)
	case "nor":
		return ones - (a | b)
	case "slt":
		return truth(signed(a) < signed(b))
	case "sltu":
		return truth(uint64(a) < uint64(b))
	case "shl":
		return uint32(uint64(a) * by)
	case "shr":
		return uint32(uint64(a) / by)
	case "sar":
		return uint32(signed(a) >> (b % 32))
	case "mul":
		return uint32(uint64(a) * uint64(b))
	case "mulh":
		return uint32(signed(a) * signed(b) >> 32)
	case "mulhu":
		return uint32(uint64(a) * uint64(b) >> 32)
	}
	if b == 0 {
		return was
	}
	return map[string]uint32{"quo": uint32(signed(a) / signed(b)), "rem": uint32(signed(a) % signed(b)), "quou": uint32(uint64(a) / uint64(b)), "remu": uint32(uint64(a) % uint64(b))}[kind]
}

// there tells whether memory has so many bytes at an address.
func there(addr uint32, size int) bool { return addr%uint32(size) == 0 && addr < api.RamSize }

// load bytes that are there; size below 0: signed.
func (m *machine) load(addr uint32, size int) uint32 {
	var v int64
	for n := range uint32(max(size, -size)) {
		v = 256*v + int64(m.bytes[addr+n])
	}
	if limit := int64(1) << (8*max(size, -size) - 1); size < 0 && v >= limit {
		v -= 2 * limit
	}
	return uint32(v)
}

// read an op: what it writes, as something to be done behind the row's reads; false: it traps.
func (m *machine) read(o api.Op) (write func(), ok bool) {
	put := func(v uint32) (func(), bool) { return func() { m.x[o.D] = v }, true }
	addr := m.x[o.A] + o.Imm
	switch o.Kind {
	case "if", "out", "outr":
		return func() {}, true
	case "over+":
		return func() {}, isWord(signed(m.x[o.A]) + signed(m.x[o.B]))
	case "over-":
		return func() {}, isWord(signed(m.x[o.A]) - signed(m.x[o.B]))
	case "set":
		return put(o.Imm)
	case "copy":
		return put(m.x[o.A])
	case "load":
		if !there(addr, max(o.B, -o.B)) {
			return nil, false
		}
		return put(m.load(addr, o.B))
	case "store":
		if !there(addr, o.D) || m.watched[addr/256] {
			return nil, false
		}
		v := m.x[o.B]
		return func() {
			for n := range o.D {
				m.bytes[addr+uint32(n)] = byte(v >> (8 * (o.D - 1 - n)))
			}
		}, true
	}
	return put(result(o.Kind, m.x[o.A], m.x[o.B], m.x[o.D]))
}

// leaves tells whether an op will, and where for.
func (m *machine) leaves(o api.Op) (uint32, bool) {
	switch o.Kind {
	case "if":
		return o.Imm, m.x[o.A] > 0
	case "out":
		return o.Imm, true
	case "outr":
		return m.x[o.A], true
	}
	return 0, false
}

// run a plan that is well.
func (m *machine) run(p plan.Plan) ir.End {
	before := *m
	m.x = [64]uint32{32: m.s.Hi, 33: m.s.Lo}
	copy(m.x[:], m.s.R[:])
	for _, row := range p.Rows {
		var writes []func()
		to, gone := uint32(0), false
		for _, o := range row {
			w, ok := m.read(o)
			if !ok {
				*m = before
				return ir.End{Trap: true, At: o.At}
			}
			writes = append(writes, w)
			if place, yes := m.leaves(o); yes {
				to, gone = place, true
			}
		}
		for _, w := range writes {
			w()
		}
		if gone {
			copy(m.s.R[:], m.x[:])
			m.s.Hi, m.s.Lo, m.s.PC, m.s.Next = m.x[32], m.x[33], to, to+4
			m.s.Count += p.Many
			break
		}
	}
	return ir.End{}
}

// words of its memory.
func (m *machine) words() []uint32 {
	var l []uint32
	for n := uint32(0); n < api.RamSize; n += 4 {
		l = append(l, m.load(n, 4))
	}
	return l
}

// pairs are the kinds with D, A and B, but load and store.
func pairs() []string {
	return []string{"add", "sub", "and", "or", "xor", "nor", "slt", "sltu", "shl", "shr", "sar", "mul", "mulh", "mulhu", "quo", "rem", "quou", "remu"}
}

// numbers tells words from a fixed rule, each time another one.
func numbers(x uint32) func() uint32 {
	return func() uint32 {
		x ^= x << 13
		x ^= x >> 17
		x ^= x << 5
		return x
	}
}

func edges() []uint32 {
	return []uint32{0, 1, 2, 3, 4, 31, 32, 33, 255, 256, 32768, 65535, api.RamSize - 4, api.RamSize - 1, api.RamSize, api.Console, 1<<31 - 1, 1 << 31, 1<<31 + 1, 1<<32 - 4, 1<<32 - 2, ones}
}

// anyValue is an edge, an address of memory, or any.
func anyValue(next func() uint32) uint32 {
	switch next() % 4 {
	case 0:
		return next()
	case 1:
		return edges()[next()%uint32(len(edges()))]
	}
	return next() % 1024 &^ 3
}

// anyState at a place.
func anyState(next func() uint32, pc uint32) api.State {
	s := api.State{Hi: anyValue(next), Lo: anyValue(next), PC: pc, Next: pc + 4, Status: next() % 4, Cause: next(), EPC: next(), Bad: next(), Compare: next(), Count: int(next())}
	for n := 1; n < 32; n++ {
		s.R[n] = anyValue(next)
	}
	return s
}

// anyMemory, of which some pages are watched.
func anyMemory(next func() uint32) *ram.Ram {
	words := make([]uint32, 300)
	for n := range words {
		words[n] = next()
	}
	r := ram.New(words)
	for range next() % 3 {
		r.Watch(int(next()%5), true)
	}
	return r
}

// anyRow of few registers, so that its ops meet; last: it has an out or outr. Few of its ops trap.
func anyRow(next func() uint32, many int, last, store bool) []api.Op {
	registers := []int{0, 1, 2, 3, 31, 32, 33, 34, 63}
	reads := func() int { return registers[next()%9] }
	// Each number of a row is written at most once: the places are turned, and taken one by one.
	turn := next() % 8
	writes := func() int { turn++; return registers[1+turn%8] }
	near := func(size int) (int, uint32) {
		if next()%16 == 0 {
			return reads(), anyValue(next)
		}
		return 0, next() % 24 &^ uint32(size-1)
	}
	var row []api.Op
	for range next() % 4 {
		kind := pairs()[next()%18]
		switch next() % 8 {
		case 0:
			row = append(row, api.Op{Kind: "set", D: writes(), Imm: anyValue(next)})
		case 1, 2:
			row = append(row, api.Op{Kind: "copy", D: writes(), A: reads()})
		case 3:
			row = append(row, api.Op{Kind: []string{"over+", "over-"}[next()%2], A: []int{0, reads()}[next()/2%2], B: reads()})
		default:
			row = append(row, api.Op{Kind: kind, D: writes(), A: reads(), B: reads()})
		}
	}
	if last {
		row = append(row, []api.Op{{Kind: "out", Imm: next()}, {Kind: "outr", A: reads()}}[next()%2])
	} else if next()%6 == 0 {
		row = append(row, api.Op{Kind: "if", A: reads(), Imm: next()})
	}
	if size := []int{1, 2, 4}[next()%3]; len(row) < 4 && store {
		a, imm := near(size)
		row = append(row, api.Op{Kind: "store", D: size, A: a, B: reads(), Imm: imm})
	} else if len(row) < 4 && next()%2 == 0 || len(row) == 0 {
		a, imm := near(size)
		row = append(row, api.Op{Kind: "load", D: writes(), A: a, B: size - 2*size*int(next()%2)*int(truth(size < 4)), Imm: imm})
	}
	for n := range row {
		row[n].At = int(next() % uint32(many))
		other := int(next() % uint32(len(row)))
		row[n], row[other] = row[other], row[n]
	}
	return row
}

// anyPlan that is well: of stores, only its first rows have one each.
func anyPlan(next func() uint32) plan.Plan {
	p := plan.Plan{PC: anyValue(next), Many: int(1 + next()%24)}
	many := int(1 + next()%12)
	for n := range many {
		p.Rows = append(p.Rows, anyRow(next, p.Many, n == many-1, n < api.Gate && next()%2 == 0))
	}
	return p
}
