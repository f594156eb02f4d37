package cpu

import "changeling/api"

// load from memory or a device, which sees it also where register 0 is to take it.
func (p *step) load() int {
	addr := p.address()
	size, signed := p.bytes()
	v, err := p.bus.Load(addr, size, signed, p.Count)
	if err != nil {
		return p.badAddress(api.AdEL, addr)
	}
	p.set(p.T, v)
	return p.goOn()
}

// store to memory or a device.
func (p *step) store() int {
	addr := p.address()
	size, _ := p.bytes()
	if err := p.bus.Store(addr, size, p.R[p.T], p.Count); err != nil {
		return p.badAddress(api.AdES, addr)
	}
	return p.goOn()
}

func (p *step) address() uint32 { return p.R[p.S] + p.imm() }

// bytes that a load or store moves: how many, and whether signed.
func (p *step) bytes() (size int, signed bool) {
	switch p.Op {
	case api.ILb, api.ILbu, api.ISb:
		return 1, p.Op == api.ILb
	case api.ILh, api.ILhu, api.ISh:
		return 2, p.Op == api.ILh
	}
	return wordBytes, false
}
