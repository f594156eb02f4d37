package side_test

import (
	"fmt"
	"math"
	"slices"
	"testing"

	"changeling/api"
	"changeling/asm"
	"changeling/bus"
	"changeling/cpu"
	"changeling/morph"
	"changeling/play"
	"changeling/side"
)

// configs: steps alone, plans from the first coming on, and some between.
func configs() []morph.Config {
	return []morph.Config{
		{Most: 1, Keep: 1},
		{Hot: 1, Most: api.MaxRegion, Keep: api.MaxKeep, Level: 2},
		{Hot: 2, Most: 12, Keep: 4, Level: 2},
		{Hot: 3, Most: 6, Keep: 2, Level: 1},
		{Hot: 1, Most: 2, Keep: 1},
		{Hot: 1000, Most: api.MaxRegion, Keep: api.MaxKeep},
	}
}

// plans is a config at which turns are long.
func plans() morph.Config { return configs()[1] }

func wordsOf(t *testing.T, k int) []uint32 {
	t.Helper()
	words, err := asm.Assemble(play.Lines(k), 0)
	if err != nil {
		t.Fatal(k, err)
	}
	return words
}

// bySteps is the sum behind so many steps of a processor.
func bySteps(words []uint32, count int) uint32 {
	s, b := cpu.New(0), bus.New(words)
	for range count {
		cpu.Step(s, b)
	}
	return play.Sum(*s, b)
}

// manySums: as many lists as there may be, of all programs, with counts up to the greatest.
func manySums(t *testing.T) (l [][]uint32, counts []int, want []uint32) {
	t.Helper()
	for n := range 40 {
		count := []int{0, 1, 2000, 1999, 7, 64, 401, 1000}[n%8] / (1 + n/8)
		words := wordsOf(t, (n+n/4)%4)
		l, counts, want = append(l, words), append(counts, count), append(want, bySteps(words, count))
	}
	return l, counts, want
}

func sums(t *testing.T, l [][]uint32, counts []int, c morph.Config, workers int) []uint32 {
	t.Helper()
	got, err := side.Sums(l, counts, c, workers)
	if err != nil {
		t.Fatalf("%d lists, %v, %+v, %d workers: %v", len(l), counts, c, workers, err)
	}
	return got
}

func plays(t *testing.T, scripts [][]int, c morph.Config, workers int) [][]int {
	t.Helper()
	got, err := side.Plays(scripts, c, workers)
	if err != nil {
		t.Fatalf("%v, %+v, %d workers: %v", scripts, c, workers, err)
	}
	return got
}

// P150 P151: each list's sum is at its own place, and as a processor's, whatever the config and however many work.
func TestSumsAreAsAProcessors(t *testing.T) {
	l, counts, want := manySums(t)
	for _, c := range configs() {
		for workers := 1; workers <= api.Workers; workers++ {
			if got := sums(t, l, counts, c, workers); !slices.Equal(got, want) {
				t.Errorf("%+v, %d workers:\n got %v\nwant %v", c, workers, got, want)
			}
		}
	}
}

// P150: at every count of a stretch, also those that turns go beyond, and those that they come to by plans.
func TestSumsAtEachCount(t *testing.T) {
	for k := range 4 {
		words := wordsOf(t, k)
		for _, c := range configs()[1:3] {
			met, beyond := 0, 0
			for from := 0; from < 240; from += 40 {
				l, counts, want := slices.Repeat([][]uint32{words}, 40), []int{}, []uint32{}
				for count := from; count < from+40; count++ {
					counts, want = append(counts, count), append(want, bySteps(words, count))
					m, err := morph.New(words, 0, c)
					if err != nil {
						t.Fatal(err)
					}
					m.To(count)
					if m.State().Count > count {
						beyond++
					} else if m.Told().Ran > 0 {
						met++
					}
				}
				if got := sums(t, l, counts, c, 3); !slices.Equal(got, want) {
					t.Errorf("program %d, %+v, from %d:\n got %v\nwant %v", k, c, from, got, want)
				}
			}
			if met == 0 || beyond == 0 {
				t.Errorf("program %d, %+v is no test: %d counts met, %d gone beyond", k, c, met, beyond)
			}
		}
	}
}

// P150: worked out by hand: of nothing, and of one word behind one step.
func TestSumsByHand(t *testing.T) {
	start := api.State{Next: 4}
	loaded := api.State{PC: 4, Next: 8, Count: 1}
	loaded.R[1] = 7
	words := []uint32{604045319} // addiu $1, $0, 7
	want := []uint32{play.Sum(start, nil), play.Sum(start, bus.New(words)), play.Sum(loaded, bus.New(words))}
	for _, c := range configs() {
		if got := sums(t, [][]uint32{nil, words, words}, []int{0, 0, 1}, c, 2); !slices.Equal(got, want) {
			t.Errorf("%+v: %v, not %v", c, got, want)
		}
	}
}

// P150: words that memory has no place for are left away; a list of none is memory of 0 alone.
func TestSumsOfOddLists(t *testing.T) {
	long := make([]uint32, api.RamSize/4+100)
	for n := range long {
		long[n] = uint32(n) * 2654435761
	}
	wrong := []uint32{math.MaxUint32, math.MaxUint32}
	l := [][]uint32{nil, {}, long, long[:api.RamSize/4], wrong}
	counts := []int{2000, 2000, 500, 500, 300}
	var want []uint32
	for n, words := range l {
		want = append(want, bySteps(words, counts[n]))
	}
	if want[0] != want[1] || want[2] != want[3] {
		t.Fatal("no test")
	}
	for _, c := range configs() {
		if got := sums(t, l, counts, c, 4); !slices.Equal(got, want) {
			t.Errorf("%+v: %v, not %v", c, got, want)
		}
	}
}

// P150: no lists, no scripts: no answers, and no error.
func TestNothingToDo(t *testing.T) {
	for _, workers := range []int{1, 2, api.Workers} {
		if got := sums(t, nil, []int{}, plans(), workers); len(got) != 0 {
			t.Errorf("sums: %v", got)
		}
		if got := sums(t, [][]uint32{}, nil, plans(), workers); len(got) != 0 {
			t.Errorf("sums: %v", got)
		}
		if got := plays(t, nil, plans(), workers); len(got) != 0 {
			t.Errorf("plays: %v", got)
		}
		if got := plays(t, [][]int{}, plans(), workers); len(got) != 0 {
			t.Errorf("plays: %v", got)
		}
	}
}

// manyScripts: as many as there may be, with empty ones, with numbers that do nothing, and with more numbers than are taken.
func manyScripts() [][]int {
	var l [][]int
	for n := range 40 {
		switch n % 10 {
		case 7:
			l = append(l, nil)
		case 8:
			l = append(l, []int{-1, math.MinInt, math.MaxInt, -64})
		case 9:
			l = append(l, slices.Repeat([]int{n % 4}, 310))
		default:
			l = append(l, []int{n, 63, 0, 100 + n, -1, 64, 40})
		}
	}
	return l
}

// byPlay is what package play makes of the scripts, one behind the other.
func byPlay(t *testing.T, scripts [][]int, c morph.Config) [][]int {
	t.Helper()
	var l [][]int
	for k, script := range scripts {
		m, err := play.New(k, c)
		if err != nil {
			t.Fatal(err)
		}
		l = append(l, play.Run(m, script))
	}
	return l
}

// alike takes a nil list and an empty one as one thing.
func alike(a, b [][]int) bool { return slices.EqualFunc(a, b, slices.Equal) }

// P150 P151: script number k is run by play k, however many work.
func TestPlaysAreAsPlays(t *testing.T) {
	scripts := manyScripts()
	for _, c := range configs() {
		want := byPlay(t, scripts, c)
		for workers := 1; workers <= api.Workers; workers++ {
			if got := plays(t, scripts, c, workers); !alike(got, want) {
				t.Errorf("%+v, %d workers:\n got %v\nwant %v", c, workers, got, want)
			}
		}
	}
}

// P150: one script is another play at each number, modulo 4.
func TestTheNumberTellsThePlay(t *testing.T) {
	scripts := slices.Repeat([][]int{{20, 0, 31, 5, 5, 5, 5, 63, 1, 1, 1, 9}}, 8)
	got := plays(t, scripts, plans(), 3)
	for one := range got {
		for other := range one {
			if same := slices.Equal(got[one], got[other]); same != (one%4 == other%4) {
				t.Errorf("plays %d and %d: %v and %v", other, one, got[other], got[one])
			}
		}
	}
}

// P151: again and again, and by calls that run at once, it is the same.
func TestItIsTheSameAgain(t *testing.T) {
	l, counts, want := manySums(t)
	scripts := manyScripts()
	runs := byPlay(t, scripts, plans())
	told := make(chan string)
	const calls = 12
	for n := range calls {
		go func() {
			got, err := side.Sums(l, counts, plans(), 1+n)
			again, also := side.Plays(scripts, plans(), api.Workers-n)
			if err != nil || also != nil || !slices.Equal(got, want) || !alike(again, runs) {
				told <- fmt.Sprintf("call %d: %v, %v, %v, %v", n, got, err, again, also)
				return
			}
			told <- ""
		}()
	}
	for range calls {
		if text := <-told; text != "" {
			t.Error(text)
		}
	}
}
