package opt

import (
	"changeling/api"
	"changeling/ir"
)

// facts: what KNOWN registers have, at a place of a code that is gone through from its first op on.
type facts map[int]uint32

func newFacts() facts { return facts{0: 0} }

// know tells whether a register is KNOWN.
func (f facts) know(register int) bool {
	_, ok := f[register]
	return ok
}

// tell whether an op is one whose result is KNOWN ahead of a run. The four of Div are none: by 0 they hang on a third register.
func (f facts) tell(o api.Op) bool {
	d, a, b := ir.Registers(o.Kind)
	return d && a && b && !divides(o) && f.know(o.A) && f.know(o.B)
}

// result of an op, if facts tell it. A copy is none of those that are counted, but what it copies goes on being KNOWN by it.
func (f facts) result(o api.Op) (uint32, bool) {
	switch {
	case o.Kind == "copy" && f.know(o.A):
		return f[o.A], true
	case f.tell(o):
		return ir.Result(o.Kind, f[o.A], f[o.B]), true
	}
	return 0, false
}

// learn what is so behind an op: what it wrote is KNOWN only of a set. Register 0, which stays KNOWN, stands for none that it writes.
func (f facts) learn(o api.Op) {
	to := Writes(o)
	switch {
	case to == 0:
	case o.Kind == "set":
		f[to] = o.Imm
	default:
		delete(f, to)
	}
}
