package cpu

import (
	"changeling/api"
	"changeling/code"
)

// load from memory or a device, which sees it also where register 0 is to take it.
func (p *step) load() int {
	addr := p.address()
	size, signed := code.Bytes(p.Op)
	v, err := p.bus.Load(addr, size, signed, p.Count)
	if err != nil {
		return p.badAddress(api.AdEL, addr)
	}
	p.set(p.T, v)
	return p.goOn()
}

// store to memory or a device.
func (p *step) store() int {
	addr := p.address()
	size, _ := code.Bytes(p.Op)
	if err := p.bus.Store(addr, size, p.R[p.T], p.Count); err != nil {
		return p.badAddress(api.AdES, addr)
	}
	return p.goOn()
}

func (p *step) address() uint32 { return p.R[p.S] + code.Imm(p.Ins) }
