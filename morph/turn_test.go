package morph_test

import (
	"fmt"
	"math"
	"slices"
	"strings"
	"testing"

	"changeling/api"
	"changeling/cpu"
	"changeling/host"
	"changeling/ir"
	"changeling/morph"
	"changeling/plain"
	"changeling/plan"
)

// skips is a handler that goes on behind what went wrong.
const skips = "mfc0 $26, $14; addiu $26, $26, 4; mtc0 $26, $14; mfc0 $27, $13; addu $28, $28, $27; eret"

// asksAgain is a handler of interrupts that asks for the next one.
const asksAgain = "mfc0 $26, $9; addiu $26, $26, 23; mtc0 $26, $11; mfc0 $27, $14; addu $28, $28, $27; eret"

// P130
func TestConfigsHaveBounds(t *testing.T) {
	fine := morph.Config{Hot: 3, Most: 12, Keep: 6, Level: 1}
	for _, c := range []struct {
		name        string
		with        func(n int) morph.Config
		least, most int
	}{
		{"Hot", func(n int) morph.Config { c := fine; c.Hot = n; return c }, 0, 1000},
		{"Most", func(n int) morph.Config { c := fine; c.Most = n; return c }, 1, api.MaxRegion},
		{"Keep", func(n int) morph.Config { c := fine; c.Keep = n; return c }, 1, api.MaxKeep},
		{"Level", func(n int) morph.Config { c := fine; c.Level = n; return c }, 0, 2},
	} {
		for _, n := range []int{math.MinInt, -1, c.least - 1, c.most + 1, math.MaxInt} {
			if code, at := plain.Code(c.with(n).Check()); code != 2 || at != -1 {
				t.Errorf("%s %d: error %d at %d", c.name, n, code, at)
			}
			m, err := morph.New([]uint32{1}, 0, c.with(n))
			if code, at := plain.Code(err); m != nil || code != 2 || at != -1 {
				t.Errorf("New, %s %d: %v, error %d at %d", c.name, n, m, code, at)
			}
		}
		for _, n := range []int{c.least, c.least + 1, c.most} {
			m, err := morph.New([]uint32{1}, 0, c.with(n))
			if c.with(n).Check() != nil || m == nil || err != nil {
				t.Errorf("%s %d: %v, %v", c.name, n, m, err)
			}
		}
	}
	if (morph.Config{}).Check() == nil {
		t.Error("a config of nothing is fine")
	}
}

// P130 P132
func TestItBeginsAsAProcessor(t *testing.T) {
	for _, pc := range []uint32{0, 3, 64, api.RamSize - 4, api.RamSize, math.MaxUint32} {
		for _, words := range [][]uint32{nil, {}, {1, 2, 3}, make([]uint32, api.RamSize/4+9)} {
			w := newTwin(t, "beginning", words, pc, morph.Config{Hot: 1, Most: 24, Keep: 2, Level: 2})
			if w.m.State() != *w.s || w.m.Told() != (morph.Told{}) {
				t.Errorf("at %d: %+v, %+v", pc, w.m.State(), w.m.Told())
			}
			w.look()
			w.goTo(100, 1)
		}
	}
}

// P4: words that are changed behind New make no difference.
func TestWordsAreItsOwn(t *testing.T) {
	words := program(t, "on:; addiu $1, $1, 1; j on; addu $2, $2, $1", "")
	w := newTwin(t, "own words", words, 0, morph.Config{Hot: 2, Most: 24, Keep: 2, Level: 2})
	clear(words)
	w.goTo(100, 1)
}

// programs for every config: each has a thing that a plan could get wrong.
func programs() map[string][2]string {
	return map[string][2]string{
		"a loop":                        {"addiu $1, $0, 40; on:; addu $2, $2, $1; addiu $1, $1, -1; bne $1, $0, on; xor $3, $3, $2; end:; j end; addiu $4, $4, 1", skips},
		"memory":                        {"ori $2, $0, 1000; on:; sw $1, 0($2); lbu $3, 3($2); sh $3, 6($2); lw $4, 4($2); addu $5, $5, $4; addiu $2, $2, 4; j on; addiu $1, $1, 77", skips},
		"many stores":                   {"ori $2, $0, 2000; on:; " + strings.Repeat("sw $1, 0($2); addiu $1, $1, 3; sb $1, 2($2); ", 6) + "j on; addiu $2, $2, 1", skips},
		"devices":                       {"lui $9, 1; on:; addiu $1, $1, 65; sw $1, 0($9); lw $2, 4($9); sw $2, 8($9); lw $4, 8($9); sw $4, 12($9); sb $1, 0($9); lw $0, 4($9); lw $5, 16($9); j on; addu $3, $3, $2", skips},
		"a device in a slot":            {"lui $9, 1; on:; addiu $1, $1, 1; j on; sw $1, 0($9)", skips},
		"itself, behind":                {"lui $2, 8196; ori $2, $2, 1; on:; addiu $4, $4, 1; sw $2, 8($0); addiu $2, $2, 1; j on; addu $5, $5, $4", skips},
		"itself, ahead":                 {"lui $2, 9252; on:; sw $2, 12($0); addiu $2, $2, 1; sll $0, $0, 0; addu $6, $6, $4; j on; addu $5, $5, $4", skips},
		"itself, in its slot":           {"lui $2, 9252; on:; addiu $2, $2, 1; sw $2, 20($0); addu $6, $6, $4; j on; sll $0, $0, 0", skips},
		"itself, at times":              {"lui $2, 9252; on:; addiu $2, $2, 1; andi $3, $2, 15; bne $3, $0, on; addiu $4, $4, 1; sw $2, 16($0); j on; addu $5, $5, $4", skips},
		"data beside it":                {"on:; addiu $1, $1, 1; sw $1, 200($0); lw $2, 200($0); j on; addu $3, $3, $2", skips},
		"itself, by bytes":              {"on:; addiu $4, $4, 1; sb $2, 3($0); addiu $2, $2, 1; j on; addu $5, $5, $4", skips},
		"calls":                         {"on:; jal f; addiu $1, $1, 1; j on; sll $0, $0, 0; f:; addu $2, $2, $1; jr $31; addiu $3, $3, 2", skips},
		"calls by a register":           {"ori $9, $0, 24; on:; jalr $8, $9; addiu $1, $1, 1; j on; sll $0, $0, 0; sll $0, $0, 0; addu $2, $2, $1; jr $8; addiu $8, $8, 2", skips},
		"branches in slots":             {"on:; addiu $1, $1, 1; beq $0, $0, on; j on; syscall; j on; break", skips},
		"syscalls in slots":             {"on:; addiu $1, $1, 1; j on; syscall", skips},
		"far away":                      {"lui $1, 4; jr $1; sll $0, $0, 0", skips},
		"no place":                      {"ori $1, $0, 2; on:; jr $1; addiu $1, $1, 1", skips},
		"sums that are too great":       {"lui $1, 32767; on:; addi $1, $1, 9999; addiu $2, $2, 1; sub $3, $2, $1; mult $1, $1; mfhi $4; div $1, $4; mflo $5; j on; addu $6, $6, $5", skips},
		"a sum too great in a slot":     {"lui $1, 32767; ori $1, $1, 60000; on:; addiu $2, $2, 1; bne $2, $0, on; addi $1, $1, 999; j on; sll $0, $0, 0", skips},
		"bad addresses":                 {"ori $1, $0, 16000; on:; lw $2, 0($1); addiu $1, $1, 90; sh $2, 200($1); j on; addiu $3, $3, 1", skips},
		"a bad address behind a device": {"lui $9, 1; on:; sw $1, 0($9); addiu $1, $1, 1; lw $2, 2($9); j on; sll $0, $0, 0", skips},
		"interrupts":                    {"ori $1, $0, 40; mtc0 $1, $11; ori $1, $0, 1; mtc0 $1, $12; on:; addu $2, $2, $1; addiu $3, $3, 5; bne $2, $3, on; addu $4, $4, $2; j on; addiu $5, $5, 1", asksAgain},
		"interrupts over and over":      {"ori $1, $0, 9; mtc0 $1, $11; ori $1, $0, 1; mtc0 $1, $12; on:; addiu $2, $2, 1; j on; addu $3, $3, $2", "addiu $4, $4, 1; andi $5, $4, 3; bne $5, $0, out; sll $0, $0, 0; mfc0 $6, $9; addiu $6, $6, 50; mtc0 $6, $11; out:; eret"},
		"interrupts with stores":        {"ori $1, $0, 33; mtc0 $1, $11; ori $1, $0, 1; mtc0 $1, $12; ori $9, $0, 800; on:; sw $2, 0($9); addiu $2, $2, 3; lw $3, 0($9); j on; addu $4, $4, $3", asksAgain},
		"interrupts that may not come":  {"ori $1, $0, 20; mtc0 $1, $11; on:; addiu $2, $2, 1; andi $3, $2, 31; bne $3, $0, on; addu $4, $4, $2; andi $5, $2, 32; sltu $5, $0, $5; mtc0 $5, $12; j on; sll $0, $0, 0", asksAgain},
	}
}

// P131 P132 P133
func TestTurnsAreSteps(t *testing.T) {
	for name, texts := range programs() {
		words := program(t, texts[0], texts[1])
		for _, c := range someConfigs() {
			newTwin(t, name, words, 0, c).goTo(350, 25)
		}
	}
}

// P133: a region that ends where memory does, and one that lies in two pages, of which the one or the other is written to at times.
func TestEdgesOfMemoryAndPages(t *testing.T) {
	top := make([]uint32, api.RamSize/4)
	copy(top, program(t, "ori $1, $0, 16372; jr $1; sll $0, $0, 0", "mtc0 $1, $14; eret"))
	copy(top[api.RamSize/4-3:], program(t, "addiu $2, $2, 1; addiu $3, $3, 1; jr $1", ""))
	// Register 7 is an addiu, of another number each time; it goes to the second or to the fourth word.
	const body = "addiu $1, $1, 1; addiu $2, $2, 1; addiu $3, $3, 1; addiu $5, $5, 1; andi $4, $1, 7; bne $4, $0, -6; addu $6, $6, $5; lui $7, %d; addu $7, $7, $1; sw $7, %d($0); beq $0, $0, -11; sll $0, $0, 0"
	first, second := make([]uint32, 62), make([]uint32, 62)
	first = append(first, program(t, fmt.Sprintf(body, 9282, 252), "")...)
	second = append(second, program(t, fmt.Sprintf(body, 9381, 260), "")...)
	for _, c := range someConfigs() {
		newTwin(t, "the top of memory", top, 0, c).goTo(200, 20)
		newTwin(t, "the first of two pages", first, 248, c).goTo(400, 20)
		newTwin(t, "the second of two pages", second, 248, c).goTo(400, 20)
	}
}

// P133: each count at which an interrupt may come, ahead of each instruction of a loop that is run by plans.
func TestInterruptsComeAtTheirPlace(t *testing.T) {
	for compare := range 90 {
		text := fmt.Sprintf("ori $1, $0, %d; mtc0 $1, $11; ori $1, $0, 1; mtc0 $1, $12; on:; addiu $2, $2, 1; addiu $3, $3, 2; addiu $4, $4, 3; addiu $5, $5, 4; addiu $6, $6, 5; j on; addu $7, $7, $2", compare)
		words := program(t, text, "mtc0 $0, $12; mfc0 $20, $14; mfc0 $21, $13; mfc0 $22, $9; end:; j end; addiu $23, $23, 1")
		w := newTwin(t, fmt.Sprint("interrupt at ", compare), words, 0, morph.Config{Hot: 2, Most: 24, Keep: 4, Level: 2}).goTo(150, 50)
		if compare > 60 && w.m.Told().Ran < 60 {
			t.Errorf("interrupt at %d: %+v", compare, w.m.Told())
		}
	}
}

// P131
func TestToIsDoUntilACount(t *testing.T) {
	words := program(t, programs()["calls"][0], skips)
	for _, c := range someConfigs() {
		m, err := morph.New(words, 0, c)
		if err != nil {
			t.Fatal(err)
		}
		other := newTwin(t, "to", words, 0, c)
		for _, count := range []int{math.MinInt, -1, 0, 1, 2, 2, 9, 40, 41, 39, 200, 0, 201} {
			turns := 0
			for other.s.Count < count {
				other.do()
				turns++
			}
			if got := m.To(count); got != turns || m.State() != *other.s || m.Told() != other.m.Told() {
				t.Fatalf("%+v: To %d is %d, not %d: %+v", c, count, got, turns, m.State())
			}
			if n := m.State().Count; count > 200 && n > count+api.MaxRegion-1 {
				t.Fatalf("%+v: %d is beyond %d", c, n, count)
			}
		}
	}
}

// P131
func TestToEnds(t *testing.T) {
	words := program(t, "on:; addiu $1, $1, 1; j on; addu $2, $2, $1", "")
	for _, c := range []struct{ hot, count, turns, least int }{
		{0, api.MaxSteps - 1, api.MaxSteps - 1, api.MaxSteps - 1},
		{0, api.MaxSteps, api.MaxSteps, api.MaxSteps},
		{0, api.MaxSteps + 1, api.MaxSteps, api.MaxSteps},
		{0, math.MaxInt, api.MaxSteps, api.MaxSteps},
		{1, math.MaxInt, api.MaxSteps, 3 * (api.MaxSteps - 3)},
	} {
		m, err := morph.New(words, 0, morph.Config{Hot: c.hot, Most: 4, Keep: 1})
		if err != nil {
			t.Fatal(err)
		}
		if got := m.To(c.count); got != c.turns || m.State().Count < c.least || c.hot == 0 && m.State().Count > c.least {
			t.Errorf("%+v: %d turns, to %d", c, got, m.State().Count)
		}
	}
}

// P132 P4
func TestTheBusIsACopy(t *testing.T) {
	words := program(t, "lui $9, 1; on:; addiu $1, $1, 1; sw $1, 800($0); sw $1, 0($9); sw $1, 8($9); j on; addu $2, $2, $1", skips)
	w := newTwin(t, "a copy", words, 0, morph.Config{Hot: 1, Most: 24, Keep: 8, Level: 2}).goTo(200, 200)
	b := w.m.Bus()
	memory, output, lamp, trace := b.Ram().Words(), b.Output(), b.Lamp(), b.Trace()
	w.goTo(300, 100)
	if !slices.Equal(b.Ram().Words(), memory) || b.Output() != output || b.Lamp() != lamp || !slices.Equal(b.Trace(), trace) {
		t.Error("a copy goes on with the changeling")
	}
	for n := range uint32(40) {
		b.Store(4*n, 4, 0, 1)
		b.Store(api.Console, 4, n, 1)
		b.Store(api.Lamp, 4, 77, 1)
		b.Ram().Watch(int(n), true)
	}
	w.goTo(400, 1)
	s := w.m.State()
	s.R[1], s.PC = 5, 3
	w.goTo(450, 1)
}

// P133: whoever goes on with the copy, by steps, by a code or by a plan, comes to what a processor's memory does.
func TestTheCopyIsAsAProcessors(t *testing.T) {
	words := program(t, "on:; addiu $1, $1, 1; addu $2, $2, $1; j on; xor $3, $3, $2", "")
	w := newTwin(t, "a copy", words, 0, morph.Config{Hot: 1, Most: 24, Keep: 8, Level: 2}).goTo(100, 100)
	if w.m.Told().Kept == 0 {
		t.Fatal("nothing is kept: this is no test")
	}
	ops := []api.Op{{Kind: "set", D: 1, Imm: 9}, {Kind: "store", D: 4, B: 1, Imm: 4}, {Kind: "out"}}
	end, err := ir.Eval(ir.Code{Many: 1, Ops: ops}, cpu.New(0), w.m.Bus().Ram())
	if end.Trap || err != nil {
		t.Errorf("a code: %v, %v", end, err)
	}
	end, err = host.Run(plan.Plan{Many: 1, Rows: [][]api.Op{ops[:1], ops[1:]}}, cpu.New(0), w.m.Bus().Ram())
	if end.Trap || err != nil {
		t.Errorf("a plan: %v, %v", end, err)
	}
	b := w.m.Bus()
	if err := b.Store(4, 4, 9, 0); err != nil || len(b.Ram().Hits()) > 0 {
		t.Error("a store hits a page of the copy:", err)
	}
}

// P2: what others do between makes no difference, and looking does not.
func TestTurnsHangOnNothingElse(t *testing.T) {
	words := program(t, programs()["itself, at times"][0], skips)
	c := morph.Config{Hot: 2, Most: 9, Keep: 2, Level: 2}
	one, other := newTwin(t, "one", words, 0, c), newTwin(t, "other", words, 0, c)
	for range 300 {
		one.do()
		one.look()
		another, err := morph.New(words, 8, c)
		if err != nil {
			t.Fatal(err)
		}
		another.To(7)
		other.do()
		if one.m.State() != other.m.State() || one.m.Told() != other.m.Told() {
			t.Fatalf("%+v, %+v", one.m.Told(), other.m.Told())
		}
	}
}

// P1: one that New did not make.
func TestAMorphOfNobodyStays(t *testing.T) {
	m := &morph.Morph{}
	if m.Do() != 0 || m.To(0) != 0 || m.To(math.MaxInt) > api.MaxSteps || m.State() != (api.State{}) {
		t.Errorf("%+v", m.State())
	}
}
