package cpu

import "changeling/api"

// Numbers by which mfc0 and mtc0 name what is no numbered register.
const (
	badNumber     = 8
	countNumber   = 9
	compareNumber = 11
	statusNumber  = 12
	causeNumber   = 13
	epcNumber     = 14
)

// trap does what has to do with exceptions.
func (p *step) trap() int {
	switch p.Op {
	case api.ISyscall:
		return api.Sys
	case api.IBreak:
		return api.Bp
	case api.IMfc0:
		return p.fromControl()
	case api.IMtc0:
		return p.toControl()
	case api.IEret:
		return p.comeBack()
	}
	return api.RI
}

func (p *step) fromControl() int {
	var v uint32
	switch p.D {
	case badNumber:
		v = p.Bad
	case countNumber:
		v = uint32(p.Count)
	case compareNumber:
		v = p.Compare
	case statusNumber:
		v = p.Status
	case causeNumber:
		v = p.Cause
	case epcNumber:
		v = p.EPC
	default:
		return api.RI
	}
	p.set(p.T, v)
	return p.goOn()
}

func (p *step) toControl() int {
	v := p.R[p.T]
	switch p.D {
	case compareNumber:
		p.Compare = v
	case statusNumber:
		p.Status = v & (enabled | handling)
	case epcNumber:
		p.EPC = v
	default:
		return api.RI
	}
	return p.goOn()
}

// comeBack from an exception that is being handled.
func (p *step) comeBack() int {
	if p.Status&handling == 0 || p.Slot {
		return api.RI
	}
	p.jump(p.EPC)
	p.Status &^= handling
	return fine
}
