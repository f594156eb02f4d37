package ir

import (
	"changeling/api"
	"changeling/ram"
	"changeling/word"
)

// wordBytes is how far one instruction is from the next one.
const wordBytes = 4

// run is a code on its way. State and memory stay as they are until it leaves, so that a trap has nothing to take back.
type run struct {
	x    [api.Temps]uint32
	gate gate
}

// Eval a code.
func Eval(c Code, s *api.State, r *ram.Ram) (End, error) {
	if s == nil || r == nil {
		return End{}, api.ErrShape
	}
	if err := Check(c); err != nil {
		return End{}, err
	}
	if s.Slot || s.PC != c.PC || s.Next != c.PC+wordBytes {
		return End{}, api.ErrAlign
	}
	m := &run{gate: gate{memory: r}}
	m.begin(s)
	to, end := m.all(c.Ops)
	if !end.Trap {
		m.leave(s, to, c.Many)
	}
	return end, nil
}

// begin with the guest's registers.
func (m *run) begin(s *api.State) {
	copy(m.x[:], s.R[:])
	m.x[api.Hi], m.x[api.Lo] = s.Hi, s.Lo
}

// all ops, to the first one that leaves, and where for, or traps.
func (m *run) all(ops []api.Op) (uint32, End) {
	for _, o := range ops {
		switch o.Kind {
		case "if":
			if m.x[o.A] != 0 {
				return o.Imm, End{}
			}
		case "out":
			return o.Imm, End{}
		case "outr":
			return m.x[o.A], End{}
		default:
			if !m.do(o) {
				return 0, End{Trap: true, At: o.At}
			}
		}
	}
	// A code that is well does not come here: its last op leaves.
	return 0, End{Trap: true}
}

// do an op that goes on; false: it traps.
func (m *run) do(o api.Op) bool {
	switch o.Kind {
	case "over+":
		_, over := word.Add(m.x[o.A], m.x[o.B])
		return !over
	case "over-":
		_, over := word.Sub(m.x[o.A], m.x[o.B])
		return !over
	case "load":
		v, ok := m.gate.load(m.x[o.A]+o.Imm, max(o.B, -o.B), o.B < 0)
		m.x[o.D] = v
		return ok
	case "store":
		return m.gate.store(m.x[o.A]+o.Imm, o.D, m.x[o.B])
	case "set":
		m.x[o.D] = o.Imm
	case "copy":
		m.x[o.D] = m.x[o.A]
	case "quo", "rem", "quou", "remu":
		m.divide(o)
	default:
		m.x[o.D] = Result(o.Kind, m.x[o.A], m.x[o.B])
	}
	return true
}

// divide, or leave the register as it is.
func (m *run) divide(o api.Op) {
	quotient, rest, ok := word.Div(m.x[o.A], m.x[o.B], o.Kind == "quo" || o.Kind == "rem")
	switch {
	case !ok:
	case o.Kind == "quo" || o.Kind == "quou":
		m.x[o.D] = quotient
	default:
		m.x[o.D] = rest
	}
}

// leave for a place: what was done so far goes to the state and to memory.
func (m *run) leave(s *api.State, to uint32, many int) {
	copy(s.R[:], m.x[:])
	s.Hi, s.Lo = m.x[api.Hi], m.x[api.Lo]
	s.PC, s.Next = to, to+wordBytes
	s.Count += many
	m.gate.open()
}

// Result of a kind that hangs on what two registers have alone: one with D, A and B, but load, store and the four of Div.
func Result(kind string, a, b uint32) uint32 {
	switch kind {
	case "add":
		return a + b
	case "sub":
		return a - b
	case "and":
		return a & b
	case "or":
		return a | b
	case "xor":
		return a ^ b
	case "nor":
		return ^(a | b)
	case "slt", "sltu":
		return bit(word.Less(a, b, kind == "slt"))
	case "shl":
		return word.Shift('<', a, b)
	case "shr":
		return word.Shift('>', a, b)
	case "sar":
		return word.Shift('~', a, b)
	}
	hi, lo := word.Mul(a, b, kind == "mulh")
	if kind == "mul" {
		return lo
	}
	return hi
}

func bit(yes bool) uint32 {
	if yes {
		return 1
	}
	return 0
}
