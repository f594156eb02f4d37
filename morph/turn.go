package morph

import (
	"changeling/api"
	"changeling/cpu"
	"changeling/host"
	"changeling/ir"
	"changeling/opt"
	"changeling/plan"
	"changeling/ram"
	"changeling/region"
)

// wordBytes is how far one instruction is from the next one.
const wordBytes = 4

// turn: a plan, where there is one; what it can't do is stepped through at once, as plans of what stands between would come to the same.
func (m *Morph) turn() {
	p, ok := m.find()
	if !ok {
		m.step(1)
		return
	}
	if cpu.Interrupts(&m.state, p.Many) {
		m.step(p.Many)
		return
	}
	end, err := host.Run(p, &m.state, m.bus.Ram())
	if err != nil || end.Trap {
		m.step(end.At + 1)
		return
	}
	m.ran += p.Many
	m.heat()
}

// step at most so many times, up to the first exception.
func (m *Morph) step(most int) {
	for range most {
		if cpu.Step(&m.state, m.bus) >= 0 {
			break
		}
	}
	m.forget()
}

// find the plan of where it stands; false: there is none.
func (m *Morph) find() (plan.Plan, bool) {
	if !m.canBegin() || !m.isHot() {
		return plan.Plan{}, false
	}
	if p, ok := m.plans.Get(m.state.PC); ok {
		return p, true
	}
	return m.translate()
}

// canBegin tells whether a region may begin where it stands: what is in a slot belongs to its branch.
func (m *Morph) canBegin() bool {
	return !m.state.Slot && m.state.PC%wordBytes == 0 && m.state.PC < api.RamSize
}

// isHot counts one coming to where it stands, and tells whether these are enough. A place that is hot stays so: its plan may have gone for another one's sake.
func (m *Morph) isHot() bool {
	if m.counts[m.state.PC] < m.config.Hot {
		m.counts[m.state.PC]++
	}
	return m.config.Hot > 0 && m.counts[m.state.PC] >= m.config.Hot
}

// heat where a plan has left for: else each way through a loop would have to be come to often by itself.
func (m *Morph) heat() {
	if m.canBegin() {
		m.counts[m.state.PC] = m.config.Hot
	}
}

// translate what stands there, and keep the plan; false: none can be made.
func (m *Morph) translate() (plan.Plan, bool) {
	r, err := region.Form(m.bus.Ram(), m.state.PC, m.config.Most)
	if err != nil {
		return plan.Plan{}, false
	}
	p, err := planOf(r, m.config.Level)
	if err != nil {
		return plan.Plan{}, false
	}
	m.change(func() { err = m.plans.Put(p, r.Pages) })
	if err != nil {
		return plan.Plan{}, false
	}
	m.made++
	return p, true
}

// planOf a region.
func planOf(r region.Region, level int) (plan.Plan, error) {
	c, err := ir.Lower(r)
	if err != nil {
		return plan.Plan{}, err
	}
	c, err = opt.Opt(c, level)
	if err != nil {
		return plan.Plan{}, err
	}
	return plan.Make(c)
}

// forget plans of what was written to.
func (m *Morph) forget() {
	hits := m.bus.Ram().Hits()
	if len(hits) == 0 {
		return
	}
	m.change(func() {
		for _, page := range hits {
			m.plans.Drop(page)
		}
	})
}

// change what is kept, and what is watched with it.
func (m *Morph) change(do func()) {
	m.watch(m.bus.Ram(), false)
	do()
	m.watch(m.bus.Ram(), true)
}

// watch the pages of all that is kept, or watch them no more.
func (m *Morph) watch(r *ram.Ram, on bool) {
	for _, page := range m.plans.Pages() {
		// Pages of regions are ones of memory: there is no error.
		r.Watch(page, on)
	}
}
