package plan

import (
	"slices"

	"changeling/api"
	"changeling/opt"
)

// Parts of a row: each op stands in one of them.
const (
	sums   = iota // what is in none of the others
	memory        // load, store
	leaves        // if, out, outr
	parts         // how many
)

// widest is how many ops a row may have: it can't be full in all its parts.
const widest = 4

// most ops that each part of a row may have.
var most = [parts]int{sums: 3, memory: 1, leaves: 1}

// counts of a row's ops, part by part.
type counts [parts]int

func countsOf(row []api.Op) counts {
	var c counts
	for _, o := range row {
		c[partOf(o)]++
	}
	return c
}

// fit tells whether a row may have so many.
func (c counts) fit() bool {
	all := 0
	for part, n := range c {
		if n > most[part] {
			return false
		}
		all += n
	}
	return all <= widest
}

// partOf a row in which an op stands.
func partOf(o api.Op) int {
	switch o.Kind {
	case "load", "store":
		return memory
	case "if", "out", "outr":
		return leaves
	}
	return sums
}

// hasRoom tells whether a row may have one op more.
func hasRoom(row []api.Op, o api.Op) bool {
	c := countsOf(row)
	c[partOf(o)]++
	return c.fit()
}

// writesTwice tells whether two ops of a row write one register.
func writesTwice(row []api.Op) bool {
	for n, o := range row {
		to := opt.Writes(o)
		same := func(ahead api.Op) bool { return opt.Writes(ahead) == to }
		if to != 0 && slices.ContainsFunc(row[:n], same) {
			return true
		}
	}
	return false
}

// isOut tells whether an op leaves, whatever registers have.
func isOut(o api.Op) bool { return o.Kind == "out" || o.Kind == "outr" }
