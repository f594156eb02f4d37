package ir

import (
	"changeling/api"
	"changeling/ram"
	"changeling/word"
)

// wordBytes is how far one instruction is from the next one.
const wordBytes = 4

// Guest on its way through ops that are well. Its state and memory stay as they are until it leaves, so that a trap has nothing to take back.
type Guest struct {
	state *api.State
	x     [api.Temps]uint32
	gate  gate
}

// Effect of an op that has read. What it does stands apart from that, so that several ops can read ahead of what any of them does.
type Effect struct {
	register int // which becomes value; 0: none
	value    uint32
	store    pending // of 0 bytes: none
	leaves   bool
	to       uint32
}

// Begin at a place, with the guest's registers. ErrAlign: the state does not stand there.
func Begin(pc uint32, s *api.State, r *ram.Ram) (*Guest, error) {
	if s.Slot || s.PC != pc || s.Next != pc+wordBytes {
		return nil, api.ErrAlign
	}
	g := &Guest{state: s, gate: gate{memory: r}}
	copy(g.x[:], s.R[:])
	g.x[api.Hi], g.x[api.Lo] = s.Hi, s.Lo
	return g, nil
}

// Read what an op needs, and tell what it will do; false: it traps. Nothing is changed.
func (g *Guest) Read(o api.Op) (Effect, bool) {
	switch o.Kind {
	case "over+":
		_, over := word.Add(g.x[o.A], g.x[o.B])
		return Effect{}, !over
	case "over-":
		_, over := word.Sub(g.x[o.A], g.x[o.B])
		return Effect{}, !over
	case "load":
		v, ok := g.gate.load(g.x[o.A]+o.Imm, max(o.B, -o.B), o.B < 0)
		return Effect{register: o.D, value: v}, ok
	case "store":
		store := pending{g.x[o.A] + o.Imm, o.D, g.x[o.B]}
		return Effect{store: store}, g.gate.admits(store)
	case "if":
		return Effect{leaves: g.x[o.A] != 0, to: o.Imm}, true
	case "out":
		return Effect{leaves: true, to: o.Imm}, true
	case "outr":
		return Effect{leaves: true, to: g.x[o.A]}, true
	}
	return Effect{register: o.D, value: g.result(o)}, true
}

// result of an op that does no more than to write a register.
func (g *Guest) result(o api.Op) uint32 {
	switch o.Kind {
	case "set":
		return o.Imm
	case "copy":
		return g.x[o.A]
	case "quo", "rem", "quou", "remu":
		return g.quotient(o)
	}
	return Result(o.Kind, g.x[o.A], g.x[o.B])
}

// quotient or rest, or what the register has: by 0 it stays.
func (g *Guest) quotient(o api.Op) uint32 {
	quotient, rest, ok := word.Div(g.x[o.A], g.x[o.B], o.Kind == "quo" || o.Kind == "rem")
	switch {
	case !ok:
		return g.x[o.D]
	case o.Kind == "quo" || o.Kind == "quou":
		return quotient
	}
	return rest
}

// Do what an op does: it writes a register, its store waits, or it leaves for a place.
func (g *Guest) Do(e Effect) (to uint32, leaves bool) {
	if e.register != 0 {
		g.x[e.register] = e.value
	}
	if e.store.size != 0 {
		g.gate.hold(e.store)
	}
	return e.to, e.leaves
}

// Leave for a place, behind so many instructions: what was done so far goes to the state and to memory.
func (g *Guest) Leave(to uint32, many int) {
	s := g.state
	copy(s.R[:], g.x[:])
	s.Hi, s.Lo = g.x[api.Hi], g.x[api.Lo]
	s.PC, s.Next = to, to+wordBytes
	s.Count += many
	g.gate.open()
}
