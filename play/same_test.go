package play_test

import (
	"fmt"
	"slices"
	"testing"

	"changeling/api"
	"changeling/bus"
	"changeling/cpu"
	"changeling/morph"
	"changeling/play"
)

// someConfigs: all that is small, and the greatest.
func someConfigs() []morph.Config {
	var l []morph.Config
	for _, hot := range []int{0, 1, 2, 9, 1000} {
		for _, most := range []int{1, 2, 5, api.MaxRegion} {
			for _, room := range []int{1, 3, api.MaxKeep} {
				for level := range 3 {
					l = append(l, morph.Config{Hot: hot, Most: most, Keep: room, Level: level})
				}
			}
		}
	}
	return l
}

// P143: at every Count that a run comes to, and whatever its config, a play is as a processor's steps.
func TestAPlayIsTheSameAtTheSameCount(t *testing.T) {
	for k := range 4 {
		words := wordsOf(t, k)
		for n, c := range someConfigs() {
			m := newPlay(t, k, c)
			s, b := cpu.New(0), bus.New(words)
			for at := range 24 {
				counts := play.Run(m, []int{(7*n + 13*at) % 64})
				cpu.Run(s, b, counts[0]-s.Count)
				alike(t, fmt.Sprintf("play %d, %+v", k, c), m, s, b)
			}
		}
	}
}

// P143: plays of all configs that meet at a Count have one sum there.
func TestPlaysThatMeetHaveOneSum(t *testing.T) {
	for k := range 4 {
		sums, met := map[int]uint32{}, 0
		for _, c := range someConfigs() {
			m := newPlay(t, k, c)
			for m.State().Count < 240 {
				m.Do()
				count, sum := m.State().Count, play.Sum(m.State(), m.Bus())
				first, ok := sums[count]
				if ok && first != sum {
					t.Fatalf("play %d, %+v: sums %d and %d at %d", k, c, first, sum, count)
				}
				if ok && m.Told().Ran > 0 {
					met++
				}
				sums[count] = sum
			}
		}
		if met < 300 {
			t.Errorf("play %d is no test: plans met others %d times", k, met)
		}
	}
}

// P143: far on, by plans nearly alone where a program allows for it.
func TestLongPlays(t *testing.T) {
	script := make([]int, 300)
	for n := range script {
		script[n] = 63 - n%3
	}
	for k := range 4 {
		m := newPlay(t, k, plans())
		counts := play.Run(m, script)
		s, b := cpu.New(0), bus.New(wordsOf(t, k))
		cpu.Run(s, b, counts[299])
		alike(t, fmt.Sprint("long play ", k), m, s, b)
		if m.Told().Ran == 0 || counts[299] < 300*62 {
			t.Errorf("play %d: %+v at %d", k, m.Told(), counts[299])
		}
	}
}

// P140: what the programs are for, worked out by hand.
func TestWhatPlaysDo(t *testing.T) {
	for _, c := range []morph.Config{steps(), plans(), {Hot: 3, Most: 6, Keep: 2, Level: 1}} {
		m := newPlay(t, 0, c)
		m.To(410)
		if m.State().R[1] != 5050 || m.Bus().Output() != "\xba" {
			t.Errorf("%+v: the sum is %d, the output %q", c, m.State().R[1], m.Bus().Output())
		}
		m = newPlay(t, 1, c)
		m.To(200)
		squares := m.Bus().Ram().Words()[1024:1045]
		for n, w := range squares {
			if w != uint32((20-n)*(20-n)) {
				t.Errorf("%+v: the table is %v", c, squares)
				break
			}
		}
		m = newPlay(t, 2, c)
		m.To(200)
		if s := m.State(); s.R[4] != 29 || s.R[5] != 1+29*30/2 {
			t.Errorf("%+v: the changer's registers are %d and %d", c, s.R[4], s.R[5])
		}
		m = newPlay(t, 3, c)
		m.To(1000)
		// Of all Causes, without bit 31 of each, only the one sum that is too great is not 0.
		if s := m.State(); s.R[22]<<1>>1 != 4*api.Ov || len(m.Bus().Output()) < 10 {
			t.Errorf("%+v: Causes are %d, the output %q", c, s.R[22], m.Bus().Output())
		}
		clocks := slices.ContainsFunc(m.Bus().Trace(), func(a api.Access) bool { return !a.Store && a.Addr == api.Clock })
		if !clocks {
			t.Errorf("%+v: the clock was not asked", c)
		}
	}
}
