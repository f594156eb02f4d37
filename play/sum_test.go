package play_test

import (
	"math"
	"math/big"
	"slices"
	"testing"

	"changeling/api"
	"changeling/bus"
	"changeling/play"
)

// Places of words in a sum, as P142 has them: registers 1 to 31 are from 0 on.
const (
	placeHi = 31 + iota
	placeLo
	placePC
	placeNext
	placeSlot
	placeStatus
	placeCause
	placeEPC
	placeBad
	placeCompare
	placeCount
	placeMemory
	placeLamp   = placeMemory + api.RamSize/4
	placeOutput = placeLamp + 1
)

// sumOf words, in numbers of any size: 17, and each word by how many are behind it.
func sumOf(l []uint32) uint32 {
	h := big.NewInt(17)
	for _, w := range l {
		h.Add(h.Mul(h, big.NewInt(31)), big.NewInt(int64(w)))
		h.Mod(h, big.NewInt(1<<32))
	}
	return uint32(h.Uint64())
}

// nothing but zeros, as many as a sum has without output.
func nothing() []uint32 { return make([]uint32, placeOutput) }

// P142: all that is 0.
func TestSumOfNothing(t *testing.T) {
	if placeOutput != 31+11+4096+1 {
		t.Fatal(placeOutput)
	}
	for _, b := range []*bus.Bus{nil, bus.New(nil), bus.New([]uint32{0, 0})} {
		if got := play.Sum(api.State{}, b); got != sumOf(nothing()) {
			t.Errorf("%d, not %d", got, sumOf(nothing()))
		}
	}
}

// P142: each word of a state has its place.
func TestSumOfEachWordOfAState(t *testing.T) {
	const v = 0x89ABCDEF
	states := map[int]api.State{
		placeHi: {Hi: v}, placeLo: {Lo: v}, placePC: {PC: v}, placeNext: {Next: v}, placeStatus: {Status: v}, placeCause: {Cause: v},
		placeEPC: {EPC: v}, placeBad: {Bad: v}, placeCompare: {Compare: v}, placeCount: {Count: v},
	}
	for r := 1; r < 32; r++ {
		s := api.State{}
		s.R[r] = v
		states[r-1] = s
	}
	for place, s := range states {
		l := nothing()
		l[place] = v
		if got := play.Sum(s, nil); got != sumOf(l) {
			t.Errorf("word %d: %d, not %d", place, got, sumOf(l))
		}
	}
	l := nothing()
	l[placeSlot] = 1
	if got := play.Sum(api.State{Slot: true}, nil); got != sumOf(l) {
		t.Errorf("a slot: %d, not %d", got, sumOf(l))
	}
}

// P142: of Count the lowest 32 bits.
func TestSumOfGreatCounts(t *testing.T) {
	for _, count := range []int{1, math.MaxUint32, 1 << 32, 1<<32 + 5, 1<<60 - 1, 1 << 60} {
		l := nothing()
		l[placeCount] = uint32(count % (1 << 32))
		if got := play.Sum(api.State{Count: count}, nil); got != sumOf(l) {
			t.Errorf("count %d: %d, not %d", count, got, sumOf(l))
		}
	}
}

// P142: memory from its first word to its last one, and the lamp.
func TestSumOfMemoryAndLamp(t *testing.T) {
	for _, n := range []int{0, 1, 63, 64, 2000, api.RamSize/4 - 1} {
		b := bus.New(nil)
		if err := b.Store(uint32(4*n), 4, 0xFEDCBA98, 0); err != nil {
			t.Fatal(n, err)
		}
		l := nothing()
		l[placeMemory+n] = 0xFEDCBA98
		if got := play.Sum(api.State{}, b); got != sumOf(l) {
			t.Errorf("word %d of memory: %d, not %d", n, got, sumOf(l))
		}
	}
	b := bus.New(nil)
	b.Store(api.Lamp, 4, math.MaxUint32, 0)
	l := nothing()
	l[placeLamp] = math.MaxUint32
	if got := play.Sum(api.State{}, b); got != sumOf(l) {
		t.Errorf("the lamp: %d, not %d", got, sumOf(l))
	}
}

// P142: the output byte by byte, also where bytes would be a rune together, and where they are 0.
func TestSumOfOutput(t *testing.T) {
	for _, output := range []string{"A", "\x00", "\xff", "ab", "ba", "\x00\x00\x00", "\xc3\xa4", "\xe2\x82\xac!", "\xba\xba", "\x80"} {
		b := bus.New(nil)
		l := nothing()
		for n := range len(output) {
			b.Store(api.Console, 4, 0xABCDEF00|uint32(output[n]), n)
			l = append(l, uint32(output[n]))
		}
		if got := play.Sum(api.State{}, b); got != sumOf(l) {
			t.Errorf("%q: %d, not %d", output, got, sumOf(l))
		}
	}
}

// P142: all of it at once, and nothing beside it.
func TestSumOfAll(t *testing.T) {
	l := make([]uint32, placeOutput+2)
	for n := range l {
		l[n] = uint32(n)*2654435761 + 12345
	}
	l[placeSlot], l[placeOutput], l[placeOutput+1] = 1, 200, 100
	s := api.State{
		Hi: l[placeHi], Lo: l[placeLo], PC: l[placePC], Next: l[placeNext], Slot: true, Status: l[placeStatus], Cause: l[placeCause],
		EPC: l[placeEPC], Bad: l[placeBad], Compare: l[placeCompare], Count: int(l[placeCount]),
	}
	copy(s.R[1:], l)
	b := bus.New(l[placeMemory:placeLamp])
	b.Store(api.Lamp, 4, l[placeLamp], 1)
	b.Store(api.Console, 4, 200, 2)
	b.Store(api.Console, 4, 100, 3)
	if got := play.Sum(s, b); got != sumOf(l) {
		t.Errorf("%d, not %d", got, sumOf(l))
	}
	b.Load(api.Clock, 4, false, 9)
	b.Store(api.LastIO, 4, 9, 9)
	b.Ram().Watch(3, true)
	if got := play.Sum(s, b); got != sumOf(l) {
		t.Errorf("with accesses and a page that is watched: %d, not %d", got, sumOf(l))
	}
}

// P4: a sum changes nothing.
func TestSumOnlyReads(t *testing.T) {
	b := bus.New([]uint32{1, 2, 3})
	b.Ram().Watch(0, true)
	b.Store(4, 4, 9, 0)
	b.Store(api.Console, 4, 65, 1)
	before := b.Copy()
	play.Sum(api.State{}, b)
	if !slices.Equal(b.Ram().Words(), before.Ram().Words()) || !slices.Equal(b.Trace(), before.Trace()) || b.Output() != "A" {
		t.Error("the bus is another one")
	}
	if hits := b.Ram().Hits(); !slices.Equal(hits, []int{0}) {
		t.Errorf("hits are %v", hits)
	}
}

// P1: a bus that bus.New did not make.
func TestSumOfABusThatNobodyMade(t *testing.T) {
	if got := play.Sum(api.State{}, &bus.Bus{}); got != sumOf(nothing()) {
		t.Errorf("%d, not %d", got, sumOf(nothing()))
	}
}
