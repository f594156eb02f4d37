package morph_test

import (
	"fmt"
	"testing"

	"changeling/api"
	"changeling/bus"
	"changeling/cpu"
	"changeling/morph"
)

// passes of a place: the counts at which a processor comes to it, up to a count.
func passes(words []uint32, pc, place uint32, count int) []int {
	var l []int
	s, b := cpu.New(pc), bus.New(words)
	for s.Count < count {
		if s.PC == place {
			l = append(l, s.Count)
		}
		cpu.Step(s, b)
	}
	return l
}

// runsSoon goes through a loop from a place to where it ends, and asks for what P132 says of the times that it was gone through.
func runsSoon(t *testing.T, name string, words []uint32, head, end uint32, c morph.Config) {
	t.Helper()
	const far = 20000
	begins := passes(words, 0, head, far)
	ends := passes(words, 0, end, far)
	if len(ends) == 0 || len(begins) == 0 {
		t.Fatal(name, "is no loop that ends")
	}
	begins = append(begins, ends[0])
	w := newTwin(t, name, words, 0, c).goTo(ends[0], 500)
	cold := min(c.Hot+2, len(begins)-1)
	if least := ends[0] - begins[cold]; w.m.Told().Ran < least {
		t.Errorf("%s %+v: %+v of %d passes, not %d at least", name, c, w.m.Told(), len(begins)-1, least)
	}
}

// loop: a text between a counter's beginning and its end; it is at 8 that it begins, and register 1 counts down.
func loop(times int, text string) string {
	return fmt.Sprintf("ori $1, $0, %d; sll $0, $0, 0; on:; %s; end:; j end; sll $0, $0, 0", times, text)
}

// P132
func TestLoopsAreRunByPlansSoon(t *testing.T) {
	for _, c := range []struct {
		name, text string
		many       int // instructions of its longest way
	}{
		{"two instructions", "bgtz $1, on; addiu $1, $1, -1", 2},
		{"three", "addiu $1, $1, -1; bne $1, $0, on; addu $2, $2, $1", 3},
		{"sums of all kinds", "addiu $1, $1, -1; mult $1, $1; mflo $2; div $2, $1; mfhi $3; sltu $4, $3, $2; sll $5, $4, 3; bgtz $1, on; xor $6, $6, $5", 9},
		{"a call", "jal f; addiu $1, $1, -1; bgtz $1, on; sll $0, $0, 0; j end; sll $0, $0, 0; f:; addu $2, $2, $1; jr $31; addiu $3, $3, 2", 7},
		{"a way round", "andi $2, $1, 1; beq $2, $0, round; addiu $1, $1, -1; addiu $3, $3, 1; xor $4, $4, $3; round:; bgtz $1, on; addu $5, $5, $1", 7},
		{"another way later", "addiu $1, $1, -1; slti $2, $1, 30; bne $2, $0, other; addiu $3, $3, 1; bgtz $1, on; addiu $4, $4, 1; other:; addiu $5, $5, 1; addu $6, $6, $5; bgtz $1, on; addu $7, $7, $6", 8},
		{"a way that is seldom taken", "andi $2, $1, 15; bne $2, $0, more; addiu $1, $1, -1; addiu $3, $3, 7; j more; addiu $4, $4, 1; more:; xor $5, $5, $4; bgtz $1, on; addu $6, $6, $1", 9},
		{"entered behind its head", "j middle; sll $0, $0, 0; back:; addu $2, $2, $1; middle:; addiu $1, $1, -1; bgtz $1, back; addu $3, $3, $2", 4},
	} {
		for _, hot := range []int{1, 2, 5, 20, 57, 58, 59, 1000} {
			for _, room := range []int{1, 2, api.MaxKeep} {
				for _, most := range []int{c.many, c.many + 1, api.MaxRegion} {
					words := program(t, loop(60, c.text), "")
					end := uint32(4*len(words) - 8)
					if c.name == "a call" {
						end = uint32(8 + 4*4)
					}
					head := uint32(8)
					if c.name == "entered behind its head" {
						head = 16
					}
					runsSoon(t, c.name, words, head, end, morph.Config{Hot: hot, Most: most, Keep: room, Level: hot % 3})
				}
			}
		}
	}
}

// P132: loops of any sums, with ways round that hang on the counter.
func TestAnyLoopIsRunByPlansSoon(t *testing.T) {
	for seed := range uint32(300) {
		next := numbers(seed*31337 + 5)
		text, many := "addiu $1, $1, -1", 3
		for n := range next() % 5 {
			text += fmt.Sprintf("; addu $%d, $%d, $%d; sltiu $8, $1, %d; %s $8, $0, past%d; xor $%d, $%d, $1", 2+next()%5, 2+next()%5, 1+next()%6, next()%60, []string{"beq", "bne"}[next()%2], n, 2+next()%5, 2+next()%5)
			text += fmt.Sprintf("; nor $%d, $%d, $1; past%d:", 2+next()%5, 2+next()%5, n)
			many += 5
		}
		text += "; bgtz $1, on; subu $7, $7, $1"
		if many > api.MaxRegion {
			continue
		}
		words := program(t, loop(60, text), "")
		c := morph.Config{Hot: int(1 + next()%40), Most: many + int(next()%uint32(api.MaxRegion-many+1)), Keep: int(1 + next()%9), Level: int(next() % 3)}
		runsSoon(t, fmt.Sprint("loop ", seed), words, 8, uint32(4*len(words)-8), c)
	}
}

// P132: a loop whose page is written to ahead of each time that it is come to.
func TestPlansComeBackBehindAStore(t *testing.T) {
	words := program(t, "ori $9, $0, 10; outer:; sw $9, 200($0); ori $1, $0, 20; on:; addiu $1, $1, -1; bgtz $1, on; addu $2, $2, $1; bgtz $9, outer; addiu $9, $9, -1; end:; j end; sll $0, $0, 0", "")
	w := newTwin(t, "stores", words, 0, morph.Config{Hot: 3, Most: 24, Keep: 4, Level: 2}).goTo(650, 50)
	if k := w.m.Told(); k.Ran < 3*(20-5)*10 {
		t.Errorf("%+v", k)
	}
}

// P132
func TestToldIsTold(t *testing.T) {
	words := program(t, "ori $1, $0, 50; on:; addiu $1, $1, -1; bgtz $1, on; addu $2, $2, $1; end:; j end; sll $0, $0, 0", "")
	for _, c := range []struct {
		hot, count int
		want       morph.Told
	}{
		{0, 0, morph.Told{}},
		{0, 100, morph.Told{Steps: 100}},
		{1000, 100, morph.Told{Steps: 100}},
	} {
		m, err := morph.New(words, 0, morph.Config{Hot: c.hot, Most: 24, Keep: 4, Level: 1})
		if err != nil {
			t.Fatal(err)
		}
		if m.To(c.count); m.Told() != c.want {
			t.Errorf("%+v: %+v", c, m.Told())
		}
	}
	m := newTwin(t, "told", words, 0, morph.Config{Hot: 4, Most: 24, Keep: 4, Level: 1}).goTo(400, 1).m
	k := m.Told()
	if k.Made < 2 || k.Kept < 1 || k.Steps > 3*6+1 {
		t.Errorf("%+v", k)
	}
}

// P132: as many as there is room for, and those of a page that is written to are kept no more.
func TestKeptIsWhatIsKeptNow(t *testing.T) {
	text := "on:"
	for n := range 6 {
		text += fmt.Sprintf("; addiu $%d, $%d, 1; beq $0, $0, 1; sll $0, $0, 0", n+1, n+1)
	}
	words := program(t, text+"; andi $7, $1, 31; bne $7, $0, on; sll $0, $0, 0; sw $1, 252($0); syscall", "end:; j end; sll $0, $0, 0")
	const written = 32*(6*3+3) + 1
	for room := 1; room <= 9; room++ {
		c := morph.Config{Hot: 2, Most: 24, Keep: room, Level: 2}
		w := newTwin(t, "kept", words, 0, c).goTo(written-30, 20)
		if k := w.m.Told(); k.Kept != min(room, 7) || k.Made < k.Kept {
			t.Errorf("room %d: %+v", room, k)
		}
		for w.s.Count < written {
			w.do()
		}
		w.look()
		if k := w.m.Told(); k.Kept != 0 {
			t.Errorf("room %d: %+v behind the store", room, k)
		}
	}
}
