package morph_test

import (
	"fmt"
	"slices"
	"strings"
	"testing"

	"changeling/api"
	"changeling/asm"
	"changeling/bus"
	"changeling/cpu"
	"changeling/morph"
)

// vectorWords is how many words there are ahead of the handler.
const vectorWords = api.Vector / 4

// twin is a changeling, and a processor that goes along with it, step by step, from the same beginning.
type twin struct {
	t    *testing.T
	name string
	m    *morph.Morph
	c    morph.Config
	s    *api.State
	b    *bus.Bus
}

func newTwin(t *testing.T, name string, words []uint32, pc uint32, c morph.Config) *twin {
	t.Helper()
	m, err := morph.New(words, pc, c)
	if err != nil || m == nil {
		t.Fatalf("%s %+v: %v, %v", name, c, m, err)
	}
	return &twin{t: t, name: fmt.Sprintf("%s %+v", name, c), m: m, c: c, s: cpu.New(pc), b: bus.New(words)}
}

// do a turn, and hold what it answers and the state against the processor's.
func (w *twin) do() {
	w.t.Helper()
	n := w.m.Do()
	if n < 1 || n > api.MaxRegion {
		w.t.Fatalf("%s: a turn of %d at %d", w.name, n, w.s.Count)
	}
	cpu.Run(w.s, w.b, n)
	if got := w.m.State(); got != *w.s {
		w.t.Fatalf("%s:\n got %+v\nwant %+v", w.name, got, *w.s)
	}
}

// look at all that a turn may have changed beside the state.
func (w *twin) look() {
	w.t.Helper()
	got := w.m.Bus()
	if !slices.Equal(got.Ram().Words(), w.b.Ram().Words()) {
		w.t.Fatalf("%s: memory is another one at %d", w.name, w.s.Count)
	}
	if got.Output() != w.b.Output() || got.Lamp() != w.b.Lamp() {
		w.t.Fatalf("%s: output %q, lamp %d, not %q, %d", w.name, got.Output(), got.Lamp(), w.b.Output(), w.b.Lamp())
	}
	if !slices.Equal(got.Trace(), w.b.Trace()) {
		w.t.Fatalf("%s: trace %v, not %v", w.name, got.Trace(), w.b.Trace())
	}
	for page := range api.RamSize / api.PageSize {
		if got.Ram().Watched(uint32(page * api.PageSize)) {
			w.t.Fatalf("%s: page %d of the copy is watched", w.name, page)
		}
	}
	if hits := got.Ram().Hits(); len(hits) > 0 {
		w.t.Fatalf("%s: hits of the copy: %v", w.name, hits)
	}
	k := w.m.Told()
	if k.Steps+k.Ran != w.s.Count || k.Steps < 0 || k.Ran < 0 || k.Kept < 0 || k.Kept > w.c.Keep || k.Kept > k.Made {
		w.t.Fatalf("%s: %+v at %d", w.name, k, w.s.Count)
	}
	if w.c.Hot == 0 && k != (morph.Told{Steps: w.s.Count}) {
		w.t.Fatalf("%s: plans without heat: %+v", w.name, k)
	}
}

// goTo a count, turn by turn; all is looked at ever so often, and at the end.
func (w *twin) goTo(count, often int) *twin {
	w.t.Helper()
	for turn := 1; w.s.Count < count; turn++ {
		w.do()
		if turn%often == 0 {
			w.look()
		}
	}
	w.look()
	return w
}

// lines of a text.
func lines(text string) []string { return strings.Split(text, "; ") }

// program of a text, and, if there is one, of another at Vector.
func program(t *testing.T, text, handler string) []uint32 {
	t.Helper()
	words, err := asm.Assemble(lines(text), 0)
	if err != nil {
		t.Fatal(text, err)
	}
	if handler == "" {
		return words
	}
	behind, err := asm.Assemble(lines(handler), api.Vector)
	if err != nil || len(words) > vectorWords {
		t.Fatal(handler, err)
	}
	return append(append(words, make([]uint32, vectorWords-len(words))...), behind...)
}

// someConfigs: all that is small, and the greatest.
func someConfigs() []morph.Config {
	var l []morph.Config
	for _, hot := range []int{0, 1, 2, 7} {
		for _, most := range []int{1, 2, 3, 7, api.MaxRegion} {
			for _, room := range []int{1, 2, api.MaxKeep} {
				for level := range 3 {
					l = append(l, morph.Config{Hot: hot, Most: most, Keep: room, Level: level})
				}
			}
		}
	}
	return l
}

// numbers tells words from a fixed rule, each time another one.
func numbers(x uint32) func() uint32 {
	return func() uint32 {
		x ^= x << 13
		x ^= x >> 17
		x ^= x << 5
		return x
	}
}

// anyConfig at which there are plans.
func anyConfig(next func() uint32) morph.Config {
	return morph.Config{
		Hot:   int(1 + next()%4),
		Most:  int(1 + next()%api.MaxRegion),
		Keep:  int(1 + next()%6),
		Level: int(next() % 3),
	}
}

// anyLine of a program of so many words: registers 1 to 7 are worked with, 8 is the program's first place, 9 a page of data, 10 the devices.
func anyLine(next func() uint32, many int) string {
	r := func() uint32 { return next() % 8 }
	place := func() uint32 { return next() % uint32(many) }
	base := func() uint32 { return 8 + next()%3 }
	switch next() % 20 {
	case 0, 1:
		return fmt.Sprintf("%s $%d, $%d, %d", []string{"beq", "bne"}[next()%2], r(), r(), int(next()%12)-6)
	case 2:
		return fmt.Sprintf("%s $%d, %d", []string{"blez", "bgtz"}[next()%2], r(), int(next()%12)-6)
	case 3:
		return fmt.Sprintf("%s %d", []string{"j", "jal"}[next()%2], place())
	case 4:
		return "jr $31"
	case 5, 6:
		return fmt.Sprintf("%s $%d, %d($%d)", []string{"lw", "lw", "lhu", "lb"}[next()%4], r(), 4*(next()%8), base())
	case 7:
		return fmt.Sprintf("%s $%d, %d($9)", []string{"sw", "sh", "sb"}[next()%3], r(), 4*(next()%8))
	case 8:
		return fmt.Sprintf("sw $%d, %d($10)", r(), 4*(next()%4))
	case 9:
		// What was loaded from one place of the program goes to another one.
		return fmt.Sprintf("sw $%d, %d($8)", 11+next()%4, 4*place())
	case 10:
		return fmt.Sprintf("lw $%d, %d($8)", 11+next()%4, 4*place())
	case 11:
		return fmt.Sprintf("%s $%d, $%d", []string{"mult", "div", "divu"}[next()%3], r(), r())
	case 12:
		return fmt.Sprintf("%s $%d", []string{"mfhi", "mflo", "mthi", "mtlo"}[next()%4], r())
	case 13:
		return fmt.Sprintf("%s $%d, $%d, $%d", []string{"add", "sub"}[next()%2], r(), r(), r())
	case 14:
		return fmt.Sprintf("lui $%d, %d", r(), next()%65536)
	case 15:
		return []string{"syscall", "break", "mfc0 $5, $9", "mtc0 $6, $14", ".word 4294967295", "sll $0, $0, 0"}[next()%6]
	case 16:
		return fmt.Sprintf("%s $%d, $%d, $%d", []string{"sllv", "srav", "sltu", "nor"}[next()%4], r(), r(), r())
	}
	return fmt.Sprintf("addiu $%d, $%d, %d", r(), r(), int(next()%64)-32)
}

// anyProgram: some words that set up, many of any kind, and a handler that comes back behind what went wrong and asks for another interrupt.
func anyProgram(t *testing.T, next func() uint32) []uint32 {
	many := int(12 + next()%60)
	text := "ori $9, $0, 1024; lui $10, 1; ori $1, $0, 1; mtc0 $1, $12; ori $1, $0, 30; mtc0 $1, $11"
	for n := 6; n < many; n++ {
		text += "; " + anyLine(next, many)
	}
	text += "; j 6; addiu $7, $7, 1"
	handler := fmt.Sprintf("mfc0 $26, $13; srl $27, $26, 2; andi $27, $27, 31; mfc0 $26, $14; beq $27, $0, int; sll $0, $0, 0; addiu $26, $26, %d; andi $26, $26, 508; mtc0 $26, $14; eret; int:; mfc0 $27, $9; addiu $27, $27, %d; mtc0 $27, $11; eret", 4*(1+next()%3), 10+next()%60)
	return program(t, text, handler)
}

// P131 P133
func TestAnyProgramIsAsOnAProcessor(t *testing.T) {
	ran, made := 0, 0
	for seed := range uint32(300) {
		next := numbers(seed*7919 + 1)
		words := anyProgram(t, next)
		for range 3 {
			w := newTwin(t, fmt.Sprint("program ", seed), words, 0, anyConfig(next)).goTo(1200, 40)
			ran, made = ran+w.m.Told().Ran, made+w.m.Told().Made
		}
	}
	if ran < 100000 || made < 10000 {
		t.Errorf("the programs are no test: plans did %d, %d were made", ran, made)
	}
}

// anyChanger is a loop that writes into itself, each place once in 2, 4 or 8 times; registers 11 to 14 are what it writes: sums, that change as it goes on.
func anyChanger(t *testing.T, next func() uint32) []uint32 {
	const begin = 8
	many := int(begin + 6 + next()%60)
	text := ""
	for n := range begin / 2 {
		r := 1 + next()%6
		text += fmt.Sprintf("lui $%d, %d; ori $%d, $%d, %d; ", 11+n, 9<<10|r<<5|r, 11+n, 11+n, next()%100)
	}
	text += "on:"
	for n := begin; n < many; {
		place := begin + next()%uint32(many-begin)
		switch next() % 8 {
		case 0:
			text += fmt.Sprintf("; addiu $9, $9, 1; andi $10, $9, %d; bne $10, $0, 2; addu $7, $7, $9; sw $%d, %d($0); addiu $8, $8, 1", 1<<(1+next()%3)-1, 11+next()%4, 4*place)
			n += 6
		case 1:
			r := 11 + next()%4
			text += fmt.Sprintf("; addiu $%d, $%d, 1", r, r)
			n++
		default:
			text += fmt.Sprintf("; addu $%d, $%d, $%d", 1+next()%6, 1+next()%6, 1+next()%9)
			n++
		}
	}
	return program(t, text+"; j on; addiu $7, $7, 1", skips)
}

// P133
func TestAnyProgramThatChangesItselfIsAsOnAProcessor(t *testing.T) {
	for seed := range uint32(200) {
		next := numbers(seed*6007 + 11)
		words := anyChanger(t, next)
		for range 3 {
			newTwin(t, fmt.Sprint("changer ", seed), words, 0, anyConfig(next)).goTo(1500, 100)
		}
	}
}

// P131 P133: words that nobody has written for it.
func TestAnyWordsAreAsOnAProcessor(t *testing.T) {
	for seed := range uint32(120) {
		next := numbers(seed*104729 + 3)
		words := make([]uint32, 60+next()%200)
		for n := range words {
			words[n] = next()
			if next()%2 == 0 {
				words[n] &= 0x0FFF003F | next()&0xFFC0
			}
		}
		newTwin(t, fmt.Sprint("words ", seed), words, 4*(next()%80), anyConfig(next)).goTo(600, 30)
	}
}
