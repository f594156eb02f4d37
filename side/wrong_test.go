package side_test

import (
	"math"
	"slices"
	"testing"

	"changeling/api"
	"changeling/morph"
	"changeling/plain"
	"changeling/side"
)

// Numbers of errors, as package plain tells them.
const (
	bound = 2
	shape = 3
)

// wrong configs: each is beyond one bound.
func wrong() []morph.Config {
	return []morph.Config{
		{},
		{Hot: -1, Most: 1, Keep: 1}, {Hot: 1001, Most: 1, Keep: 1},
		{Most: 0, Keep: 1}, {Most: api.MaxRegion + 1, Keep: 1},
		{Most: 1, Keep: 0}, {Most: 1, Keep: api.MaxKeep + 1},
		{Most: 1, Keep: 1, Level: -1}, {Most: 1, Keep: 1, Level: 3},
	}
}

func refusesSums(t *testing.T, name string, want int, lists int, counts []int, c morph.Config, workers int) {
	t.Helper()
	got, err := side.Sums(make([][]uint32, lists), counts, c, workers)
	if code, at := plain.Code(err); len(got) != 0 || code != want || at != -1 {
		t.Errorf("sums, %s: %v, error %d at %d, not %d", name, got, code, at, want)
	}
}

func refusesPlays(t *testing.T, name string, want int, scripts int, c morph.Config, workers int) {
	t.Helper()
	got, err := side.Plays(make([][]int, scripts), c, workers)
	if code, at := plain.Code(err); len(got) != 0 || code != want || at != -1 {
		t.Errorf("plays, %s: %v, error %d at %d, not %d", name, got, code, at, want)
	}
}

// P150: ErrShape comes first, whatever else is wrong.
func TestWorkersThatAreNone(t *testing.T) {
	for _, workers := range []int{0, -1, api.Workers + 1, math.MinInt, math.MaxInt} {
		refusesSums(t, "workers", shape, 2, []int{1, 2}, plans(), workers)
		refusesSums(t, "workers, nothing", shape, 0, nil, plans(), workers)
		refusesSums(t, "workers, and all", shape, 41, []int{-1}, morph.Config{}, workers)
		refusesSums(t, "workers, many, a config", shape, 41, make([]int, 41), morph.Config{}, workers)
		refusesPlays(t, "workers", shape, 2, plans(), workers)
		refusesPlays(t, "workers, nothing", shape, 0, plans(), workers)
		refusesPlays(t, "workers, and all", shape, 41, morph.Config{}, workers)
	}
}

// P150: ErrShape, ahead of any bound.
func TestNotAsManyCounts(t *testing.T) {
	for _, c := range []struct {
		lists  int
		counts []int
	}{
		{1, nil}, {0, []int{1}}, {2, []int{1}}, {2, []int{1, 2, 3}}, {40, make([]int, 41)}, {41, make([]int, 40)}, {41, nil},
		{1, []int{-1, 2001}}, {2, []int{2001}},
	} {
		refusesSums(t, "counts", shape, c.lists, c.counts, plans(), 1)
		refusesSums(t, "counts, a config", shape, c.lists, c.counts, morph.Config{}, 1)
	}
}

// P150
func TestTooMany(t *testing.T) {
	for _, many := range []int{41, 42, 1000} {
		for _, workers := range []int{1, api.Workers} {
			refusesSums(t, "many", bound, many, make([]int, many), plans(), workers)
			refusesPlays(t, "many", bound, many, plans(), workers)
		}
	}
	if got := sums(t, make([][]uint32, 40), make([]int, 40), plans(), 1); len(got) != 40 {
		t.Errorf("of 40 lists %d sums", len(got))
	}
	if got := plays(t, make([][]int, 40), plans(), 1); len(got) != 40 {
		t.Errorf("of 40 scripts %d plays", len(got))
	}
}

// P150: one count that is none, wherever it stands, is enough.
func TestCountsThatAreNone(t *testing.T) {
	for _, count := range []int{-1, 2001, math.MinInt, math.MaxInt} {
		for place := range 4 {
			counts := []int{0, 2000, 5, 1}
			counts[place] = count
			refusesSums(t, "a count", bound, 4, counts, plans(), 2)
		}
	}
}

// P150: c.Check's, also where there is nothing to do.
func TestConfigsThatAreNone(t *testing.T) {
	for _, c := range wrong() {
		for _, many := range []int{0, 1, 40} {
			refusesSums(t, "a config", bound, many, make([]int, many), c, 2)
			refusesPlays(t, "a config", bound, many, c, 2)
		}
	}
}

// P3 P4: what is handed over stays, with what lies behind its length, and is not kept; answers are new memory.
func TestListsAreOnlyRead(t *testing.T) {
	words := append(wordsOf(t, 2), 11, 12)
	had := slices.Clone(words)
	lists, counts := [][]uint32{words[:len(words)-2], words[:len(words)-2], nil}, []int{150, 9, -7}
	script := []int{9, 63, -5, 100, 64, 7, 8}
	kept := slices.Clone(script)
	scripts := [][]int{script[:3], script[:6], nil, {-9}}
	first := sums(t, lists[:2], counts[:2], plans(), 2)
	runs := plays(t, scripts[:3], plans(), 2)
	if !slices.Equal(words, had) || !slices.Equal(counts, []int{150, 9, -7}) || !slices.Equal(script, kept) || len(first) != 2 || len(runs) != 3 {
		t.Errorf("words, counts or a script are others now: %v, %v, %v", words, counts, script)
	}
	sum, run := slices.Clone(first), slices.Clone(runs[1])
	clear(first)
	for n := range runs {
		clear(runs[n][:cap(runs[n])])
	}
	if again := sums(t, lists[:2], counts[:2], plans(), 2); !slices.Equal(again, sum) {
		t.Errorf("sums %v, then %v", sum, again)
	}
	if again := plays(t, scripts[:3], plans(), 2); !slices.Equal(again[1], run) {
		t.Errorf("a play %v, then %v", run, again[1])
	}
}

// P4: no two lists of one answer share memory.
func TestListsOfAnAnswerAreApart(t *testing.T) {
	runs := plays(t, slices.Repeat([][]int{{5, 6, 7}}, 8), plans(), 3)
	for n := range runs {
		for i := range runs[n][:cap(runs[n])] {
			runs[n][:cap(runs[n])][i] = -n - 1
		}
	}
	for n := range runs {
		if !slices.Equal(runs[n], []int{-n - 1, -n - 1, -n - 1}) {
			t.Errorf("play %d: %v", n, runs[n])
		}
	}
}
