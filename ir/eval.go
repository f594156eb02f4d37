package ir

import (
	"changeling/api"
	"changeling/ram"
	"changeling/word"
)

// Eval a code.
func Eval(c Code, s *api.State, r *ram.Ram) (End, error) {
	if s == nil || r == nil {
		return End{}, api.ErrShape
	}
	if err := Check(c); err != nil {
		return End{}, err
	}
	g, err := Begin(c.PC, s, r)
	if err != nil {
		return End{}, err
	}
	for _, o := range c.Ops {
		e, ok := g.Read(o)
		if !ok {
			return End{Trap: true, At: o.At}, nil
		}
		if to, leaves := g.Do(e); leaves {
			g.Leave(to, c.Many)
			return End{}, nil
		}
	}
	// A code that is well does not come here: its last op leaves.
	return End{Trap: true}, nil
}

// Result of a kind that hangs on what two registers have alone: one with D, A and B, but load, store and the four of Div.
func Result(kind string, a, b uint32) uint32 {
	switch kind {
	case "add":
		return a + b
	case "sub":
		return a - b
	case "and":
		return a & b
	case "or":
		return a | b
	case "xor":
		return a ^ b
	case "nor":
		return ^(a | b)
	case "slt", "sltu":
		return bit(word.Less(a, b, kind == "slt"))
	case "shl":
		return word.Shift('<', a, b)
	case "shr":
		return word.Shift('>', a, b)
	case "sar":
		return word.Shift('~', a, b)
	}
	hi, lo := word.Mul(a, b, kind == "mulh")
	if kind == "mul" {
		return lo
	}
	return hi
}

func bit(yes bool) uint32 {
	if yes {
		return 1
	}
	return 0
}
