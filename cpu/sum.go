package cpu

import (
	"changeling/api"
	"changeling/code"
	"changeling/word"
)

// sum does what hangs on registers alone.
func (p *step) sum() int {
	a, b, to := p.operands()
	switch p.Op {
	case api.IMult, api.IMultu:
		p.Hi, p.Lo = word.Mul(a, b, p.Op == api.IMult)
	case api.IDiv, api.IDivu:
		if quotient, rest, ok := word.Div(a, b, p.Op == api.IDiv); ok {
			p.Lo, p.Hi = quotient, rest
		}
	case api.IMthi:
		p.Hi = a
	case api.IMtlo:
		p.Lo = a
	default:
		v, over := p.result(a, b)
		if over {
			return api.Ov
		}
		p.set(to, v)
	}
	return p.goOn()
}

// operands of a sum, and the register that its result goes to.
func (p *step) operands() (a, b uint32, to int) {
	switch p.Op {
	case api.ISll, api.ISrl, api.ISra:
		return p.R[p.T], code.Imm(p.Ins), p.D
	case api.ISllv, api.ISrlv, api.ISrav:
		return p.R[p.T], p.R[p.S], p.D
	case api.IAddi, api.IAddiu, api.ISlti, api.ISltiu, api.IAndi, api.IOri, api.IXori, api.ILui:
		return p.R[p.S], code.Imm(p.Ins), p.T
	}
	return p.R[p.S], p.R[p.T], p.D
}

// result of a sum that has one; true: it is none, and goes nowhere.
func (p *step) result(a, b uint32) (uint32, bool) {
	switch p.Op {
	case api.IAdd, api.IAddi:
		return word.Add(a, b)
	case api.ISub:
		return word.Sub(a, b)
	case api.IAddu, api.IAddiu:
		return a + b, false
	case api.ISubu:
		return a - b, false
	case api.IMfhi:
		return p.Hi, false
	case api.IMflo:
		return p.Lo, false
	}
	return p.bits(a, b), false
}

// bits of a sum that works bit by bit, or tells by one bit which is less.
func (p *step) bits(a, b uint32) uint32 {
	switch p.Op {
	case api.IAnd, api.IAndi:
		return a & b
	case api.IOr, api.IOri:
		return a | b
	case api.IXor, api.IXori:
		return a ^ b
	case api.INor:
		return ^(a | b)
	case api.ISlt, api.ISlti:
		return bit(word.Less(a, b, true))
	case api.ISltu, api.ISltiu:
		return bit(word.Less(a, b, false))
	case api.ISll, api.ISllv:
		return word.Shift('<', a, b)
	case api.ISrl, api.ISrlv:
		return word.Shift('>', a, b)
	case api.ISra, api.ISrav:
		return word.Shift('~', a, b)
	}
	return word.Shift('<', b, 16) // lui
}

func bit(yes bool) uint32 {
	if yes {
		return 1
	}
	return 0
}
