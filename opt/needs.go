package opt

import "changeling/api"

// needs: which registers somebody still asks for, at a place of a code that is gone through from its last op on.
type needs [api.Temps]bool

// spare tells whether an op ahead of this place is DEAD. A load is not: it may trap.
func (n *needs) spare(o api.Op) bool {
	to := Writes(o)
	return to != 0 && o.Kind != "load" && !n[to]
}

// pass an op: what is asked for ahead of it. It reads ahead of writing.
func (n *needs) pass(o api.Op) {
	switch o.Kind {
	case "if", "out", "outr":
		n.leave()
	}
	n[Writes(o)] = false
	for _, register := range Reads(o) {
		n[register] = true
	}
}

// leave: who leaves takes the guest's registers, Hi and Lo along; others are gone.
func (n *needs) leave() {
	for register := range api.Lo + 1 {
		n[register] = true
	}
}
