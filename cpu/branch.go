package cpu

import (
	"changeling/api"
	"changeling/code"
	"changeling/word"
)

// branch: what stands behind it, in its slot, is done ahead of what it goes to.
func (p *step) branch() int {
	if p.Slot {
		return api.RI
	}
	to := p.Next + wordBytes
	if p.isTaken() {
		to = p.target()
	}
	// The target is known by now: jalr may write the register that it was read from.
	switch p.Op {
	case api.IJal:
		p.set(31, p.PC+2*wordBytes)
	case api.IJalr:
		p.set(p.D, p.PC+2*wordBytes)
	}
	p.PC, p.Next, p.Slot = p.Next, to, true
	return fine
}

func (p *step) isTaken() bool {
	a := p.R[p.S]
	switch p.Op {
	case api.IBeq:
		return a == p.R[p.T]
	case api.IBne:
		return a != p.R[p.T]
	case api.IBlez:
		return !word.Less(0, a, true)
	case api.IBgtz:
		return word.Less(0, a, true)
	}
	return true
}

func (p *step) target() uint32 {
	switch p.Op {
	case api.IJr, api.IJalr:
		return p.R[p.S]
	}
	return code.Target(p.Ins, p.PC)
}
