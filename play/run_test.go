package play_test

import (
	"fmt"
	"math"
	"slices"
	"testing"

	"changeling/api"
	"changeling/bus"
	"changeling/cpu"
	"changeling/morph"
	"changeling/plain"
	"changeling/play"
)

// steps is a config at which there are no plans.
func steps() morph.Config { return morph.Config{Most: 1, Keep: 1} }

// plans is a config at which there are many.
func plans() morph.Config { return morph.Config{Hot: 1, Most: 24, Keep: 40, Level: 2} }

func newPlay(t *testing.T, k int, c morph.Config) *morph.Morph {
	t.Helper()
	m, err := play.New(k, c)
	if err != nil || m == nil {
		t.Fatalf("play %d, %+v: %v, %v", k, c, m, err)
	}
	return m
}

// alike holds a play against a processor that has made as many steps.
func alike(t *testing.T, name string, m *morph.Morph, s *api.State, b *bus.Bus) {
	t.Helper()
	got := m.Bus()
	if m.State() != *s {
		t.Fatalf("%s:\n got %+v\nwant %+v", name, m.State(), *s)
	}
	if !slices.Equal(got.Ram().Words(), b.Ram().Words()) || got.Output() != b.Output() || got.Lamp() != b.Lamp() {
		t.Fatalf("%s: memory, output or lamp is another one at %d", name, s.Count)
	}
	if !slices.Equal(got.Trace(), b.Trace()) {
		t.Fatalf("%s: trace %v, not %v", name, got.Trace(), b.Trace())
	}
	if play.Sum(m.State(), got) != play.Sum(*s, b) {
		t.Fatalf("%s: another sum at %d", name, s.Count)
	}
}

// P141
func TestAPlayBeginsAtItsFirstWord(t *testing.T) {
	for k, same := range map[int]int{0: 0, 1: 1, 2: 2, 3: 3, 6: 2, math.MaxInt: 3, -1: 0, math.MinInt: 0} {
		for _, c := range []morph.Config{steps(), plans()} {
			m := newPlay(t, k, c)
			alike(t, fmt.Sprint("beginning of ", k), m, cpu.New(0), bus.New(wordsOf(t, same)))
			if m.Told() != (morph.Told{}) {
				t.Errorf("play %d: %+v", k, m.Told())
			}
		}
	}
}

// P141: morph.New's errors.
func TestAPlayHasTheErrorsOfItsConfig(t *testing.T) {
	for _, c := range []morph.Config{
		{},
		{Hot: -1, Most: 1, Keep: 1}, {Hot: 1001, Most: 1, Keep: 1},
		{Most: 0, Keep: 1}, {Most: api.MaxRegion + 1, Keep: 1},
		{Most: 1, Keep: 0}, {Most: 1, Keep: api.MaxKeep + 1},
		{Most: 1, Keep: 1, Level: -1}, {Most: 1, Keep: 1, Level: 3},
	} {
		for _, k := range []int{0, 1, 2, 3, -1, math.MaxInt} {
			m, err := play.New(k, c)
			if code, at := plain.Code(err); m != nil || code != 2 || at != -1 {
				t.Errorf("play %d, %+v: %v, error %d at %d", k, c, m, code, at)
			}
		}
	}
	newPlay(t, 0, morph.Config{Hot: 1000, Most: api.MaxRegion, Keep: api.MaxKeep, Level: 2})
}

// P141: a number goes on by itself modulo 64, and by the one more that ../shared/tests ask for; one below 0 by nothing. By steps alone, no turn goes beyond.
func TestNumbersTellHowFarItGoes(t *testing.T) {
	for _, c := range []struct{ v, more int }{
		{0, 1}, {1, 2}, {2, 3}, {62, 63}, {63, 64}, {64, 1}, {65, 2}, {127, 64}, {128, 1}, {200, 9}, {300, 45}, {301, 46},
		{math.MaxInt, 64}, {math.MaxInt - 1, 63}, {-1, 0}, {-2, 0}, {-64, 0}, {math.MinInt, 0},
	} {
		for k := range 4 {
			m := newPlay(t, k, steps())
			want := []int{4, 4 + c.more, 4 + 2*c.more}
			if got := play.Run(m, []int{3, c.v, c.v}); !slices.Equal(got, want) {
				t.Errorf("play %d, number %d: %v, not %v", k, c.v, got, want)
			}
			if m.State().Count != want[2] {
				t.Errorf("play %d, number %d: it stands at %d, not at %d", k, c.v, m.State().Count, want[2])
			}
		}
	}
}

// P141: at any config it is To, number by number, from where the turns ahead came to.
func TestARunIsTo(t *testing.T) {
	script := []int{5, 0, -3, 63, 17, 200, 64, -1, 40, 63, 63, 1, 0, 0, 300, 31}
	for k := range 4 {
		for _, c := range someConfigs() {
			one, other := newPlay(t, k, c), newPlay(t, k, c)
			got := play.Run(one, script)
			if len(got) != len(script) {
				t.Fatalf("play %d, %+v: %v", k, c, got)
			}
			for n, v := range script {
				if v >= 0 {
					other.To(other.State().Count + v%64 + 1)
				}
				if got[n] != other.State().Count {
					t.Fatalf("play %d, %+v: %v, and by To %d at number %d", k, c, got, other.State().Count, n)
				}
			}
			if one.Told() != other.Told() {
				t.Errorf("play %d, %+v: %+v, not %+v", k, c, one.Told(), other.Told())
			}
		}
	}
}

// P141: at most 300 numbers are taken.
func TestAScriptHasAtMostSoManyNumbers(t *testing.T) {
	for _, many := range []int{0, 1, 299, 300, 301, 302, 1000} {
		script := make([]int, many)
		for n := range script {
			script[n] = 1
		}
		m := newPlay(t, 0, steps())
		got := play.Run(m, script)
		taken := min(many, 300)
		if len(got) != taken || m.State().Count != 2*taken {
			t.Errorf("%d numbers: %d answers, and it stands at %d", many, len(got), m.State().Count)
		}
		for n, count := range got {
			if count != 2*(n+1) {
				t.Fatalf("%d numbers: %d at %d", many, count, n)
			}
		}
	}
}

// P141: no numbers, and only such as do nothing.
func TestAScriptMayDoNothing(t *testing.T) {
	m := newPlay(t, 3, plans())
	for range 2 {
		was := m.State()
		for _, script := range [][]int{nil, {}, {-1}, {math.MinInt, -64, -1}} {
			got := play.Run(m, script)
			if len(got) != len(script) || m.State() != was {
				t.Errorf("%v: %v", script, got)
			}
			for _, count := range got {
				if count != was.Count {
					t.Errorf("%v: %v, not %d each", script, got, was.Count)
				}
			}
		}
		m.To(100)
	}
}

// P2 P4: a script in parts is the whole one; what it is, and what lies behind its length, stays; its answer is new memory.
func TestAScriptIsOnlyRead(t *testing.T) {
	script := []int{9, 63, -5, 100, 64, 7}
	had := slices.Clone(script)
	m := newPlay(t, 2, plans())
	first := play.Run(m, script[:2])
	told := slices.Clone(first)
	second := play.Run(m, script[2:])
	if !slices.Equal(script, had) || !slices.Equal(first, told) {
		t.Errorf("the script is %v now, and the answer %v", script, first)
	}
	if all := play.Run(newPlay(t, 2, plans()), script); !slices.Equal(all, append(first, second...)) {
		t.Errorf("at once %v, in parts %v and %v", all, first, second)
	}
}

// P1: a changeling that morph.New did not make has nothing to go on with.
func TestARunOfWhatNobodyMadeEnds(t *testing.T) {
	if got := play.Run(&morph.Morph{}, []int{0, 5, -1}); !slices.Equal(got, []int{0, 0, 0}) {
		t.Errorf("%v", got)
	}
}
