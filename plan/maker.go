package plan

import (
	"slices"

	"changeling/api"
	"changeling/opt"
)

// maker of a plan: it lays each op of a code, in order, into the first row that may have it. So the first op that came to a row had a reason not to stand in the row ahead, and that reason stays, as rows only grow: no two plain ones side by side could be one.
type maker struct {
	rows [][]api.Op
	// ready: the first row in which what a register was last given can be read, or written over.
	ready [api.Temps]int
	// asked: the last row that reads a register. One that writes it may stand there, too: a row reads first.
	asked [api.Temps]int
	// The first rows behind the last if, the last store, and the last load or store.
	behindIf, behindStore, behindMemory int
}

// place an op.
func (m *maker) place(o api.Op) {
	from := m.first(o)
	found := slices.IndexFunc(m.rows[from:], func(row []api.Op) bool { return hasRoom(row, o) })
	n := from + found
	if found < 0 {
		n = len(m.rows)
		m.rows = append(m.rows, nil)
	}
	m.rows[n] = append(m.rows[n], o)
	m.note(o, n)
}

// first row in which an op is as it was in its code, room aside: one that is there, or the one behind them.
func (m *maker) first(o api.Op) int {
	// Whoever leaves has not done what stands behind, and what stands behind may trap.
	n := m.behindIf
	for _, register := range opt.Reads(o) {
		n = max(n, m.ready[register])
	}
	if to := opt.Writes(o); to != 0 {
		n = max(n, m.ready[to], m.asked[to])
	}
	switch o.Kind {
	case "load":
		n = max(n, m.behindStore)
	case "store":
		n = max(n, m.behindMemory)
	case "if", "out", "outr":
		// All that stands ahead is done when it leaves: its own row is.
		n = max(n, len(m.rows)-1)
	}
	return n
}

// note what an op in a row is to those behind it in the code.
func (m *maker) note(o api.Op, row int) {
	for _, register := range opt.Reads(o) {
		m.asked[register] = max(m.asked[register], row)
	}
	if to := opt.Writes(o); to != 0 {
		m.ready[to] = row + 1
	}
	switch o.Kind {
	case "load":
		m.behindMemory = max(m.behindMemory, row+1)
	case "store":
		m.behindStore, m.behindMemory = row+1, row+1
	case "if":
		m.behindIf = row + 1
	}
}
