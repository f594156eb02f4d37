package ir

import (
	"slices"

	"changeling/ram"
	"changeling/word"
)

// gate holds stores back until it is open; loads see them all the same.
type gate struct {
	memory  *ram.Ram
	waiting []pending
}

// pending is a store that waits.
type pending struct {
	addr  uint32
	size  int
	value uint32
}

// load bytes; false: memory has an error.
func (g *gate) load(addr uint32, size int, signed bool) (uint32, bool) {
	if _, err := g.memory.Load(addr, size, signed); err != nil {
		return 0, false
	}
	var v uint32
	for n := range uint32(size) {
		v = v<<8 | g.byteAt(addr+n)
	}
	return word.Wide(v, 8*size, signed), true
}

// byteAt an address of memory: of the last store that waits for it, if there is one.
func (g *gate) byteAt(addr uint32) uint32 {
	for _, w := range slices.Backward(g.waiting) {
		if n := addr - w.addr; n < uint32(w.size) {
			return w.value >> (8 * (uint32(w.size) - 1 - n)) & 0xFF
		}
	}
	v, _ := g.memory.Load(addr, 1, false)
	return v
}

// admits tells whether a store may wait: memory has no error for it, and its page is not watched. A load has a store's errors, and changes nothing.
func (g *gate) admits(w pending) bool {
	_, err := g.memory.Load(w.addr, w.size, false)
	return err == nil && !g.memory.Watched(w.addr)
}

// hold a store that was admitted.
func (g *gate) hold(w pending) { g.waiting = append(g.waiting, w) }

// open: memory takes what waits, in order. It has no error for them: each was admitted.
func (g *gate) open() {
	for _, w := range g.waiting {
		g.memory.Store(w.addr, w.size, w.value)
	}
}
