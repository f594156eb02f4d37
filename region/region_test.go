package region_test

import (
	"errors"
	"math"
	"slices"
	"testing"

	"changeling/api"
	"changeling/asm"
	"changeling/code"
	"changeling/ram"
	"changeling/region"
)

const (
	sum   = "addiu $1, $1, 1"
	load  = "lw $2, 0($1)"
	store = "sw $2, 0($1)"
	goTo  = "bne $1, $2, 5"
	trap  = "syscall"
)

// memory that has lines' words from a place on, and words that are no instruction everywhere else.
func memory(t *testing.T, at uint32, lines ...string) *ram.Ram {
	t.Helper()
	words := slices.Repeat([]uint32{math.MaxUint32}, api.RamSize/4)
	program, err := asm.Assemble(lines, at)
	if err != nil {
		t.Fatal(err)
	}
	if n := copy(words[at/4:], program); n != len(program) {
		t.Fatalf("%d of %d words are in memory", n, len(program))
	}
	return ram.New(words)
}

// many lines of one text.
func many(n int, line string) []string { return slices.Repeat([]string{line}, n) }

// instructions of lines.
func instructions(t *testing.T, lines ...string) []api.Ins {
	t.Helper()
	var l []api.Ins
	for _, line := range lines {
		i, err := asm.Parse(line)
		if err != nil {
			t.Fatalf("%q: %v", line, err)
		}
		l = append(l, i)
	}
	return l
}

// same tells whether two regions are one.
func same(a, b region.Region) bool {
	return a.PC == b.PC && slices.Equal(a.Ins, b.Ins) && slices.Equal(a.Pages, b.Pages)
}

// has holds the region of all lines' memory against its first lines; none: ErrNone.
func has(t *testing.T, name string, most, n int, lines ...string) {
	t.Helper()
	const at = 64
	got, err := region.Form(memory(t, at, lines...), at, most)
	var want region.Region
	var wantErr error
	if n > 0 {
		want = region.Region{PC: at, Ins: instructions(t, lines[:n]...), Pages: []int{0}}
	} else {
		wantErr = api.ErrNone
	}
	if !same(got, want) || err != wantErr {
		t.Errorf("%s:\n got %v, %v\nwant %v, %v", name, got, err, want, wantErr)
	}
}

// P70
func TestARegionGoesOnToATrap(t *testing.T) {
	for _, line := range []string{trap, "break", "mfc0 $1, $8", "mtc0 $1, $11", "eret", ".word 4294967295", ".word 1"} {
		has(t, line, 24, 3, sum, load, store, line, sum)
		has(t, line+" at once", 24, 0, line, sum)
	}
}

// P70: what is neither trap, branch nor a store too many goes in, whatever it does.
func TestARegionHasSumsLoadsAndStores(t *testing.T) {
	lines := []string{
		"sll $1, $2, 3", "srav $1, $2, $3", "mfhi $1", "mthi $1", "mult $1, $2", "div $1, $2", "divu $1, $2", "add $1, $2, $3",
		"subu $1, $2, $3", "nor $1, $2, $3", "slt $1, $2, $3", "addi $1, $2, -3", "sltiu $1, $2, 3", "lui $1, 9",
		"lb $1, 1($2)", "lh $1, 1($2)", "lw $1, 1($2)", "lbu $1, 1($2)", "lhu $1, 1($2)", "sb $1, 1($2)", "sh $1, 1($2)", "sw $1, 1($2)",
	}
	has(t, "all", 24, len(lines), append(lines, trap)...)
}

// P70
func TestARegionHasNotMoreThanMost(t *testing.T) {
	for most := 1; most <= api.MaxRegion; most++ {
		has(t, "sums", most, most, many(30, sum)...)
		has(t, "just so many", most, most, append(many(most, sum), trap)...)
		has(t, "one less", most, most-1, append(many(most-1, sum), trap)...)
	}
}

// P70
func TestABranchHasItsSlotAndIsTheEnd(t *testing.T) {
	for _, branch := range []string{"j 3", "jal 3", "jr $1", "jalr $1, $2", "beq $1, $2, 3", "bne $1, $2, 3", "blez $1, 3", "bgtz $1, 3"} {
		for _, slot := range []string{sum, load, store, "div $1, $2"} {
			has(t, branch, 24, 4, sum, load, branch, slot, sum, sum)
			has(t, branch+" at once", 24, 2, branch, slot, sum)
			has(t, branch+" of just so many", 2, 2, branch, slot, sum)
			has(t, branch+" without room for its slot", 3, 2, sum, load, branch, slot, sum)
			has(t, branch+" without room at all", 2, 2, sum, load, branch, slot, sum)
			has(t, branch+" alone", 1, 0, branch, slot, sum)
			has(t, branch+" with the last two places", 24, 24, append(many(22, sum), branch, slot, sum)...)
			has(t, branch+" with the last place", 24, 23, append(many(23, sum), branch, slot, sum)...)
		}
		for _, slot := range []string{trap, "break", "mfc0 $1, $8", "mtc0 $1, $11", "eret", ".word 4294967295", "j 3", "jr $1", "beq $0, $0, 1", "bgtz $1, 3"} {
			has(t, branch+" with "+slot, 24, 2, sum, load, branch, slot, sum)
			has(t, branch+" at once with "+slot, 24, 0, branch, slot, sum)
		}
	}
}

// P70
func TestARegionHasNotMoreStoresThanWait(t *testing.T) {
	for _, s := range []string{"sb $1, 0($0)", "sh $1, 0($0)", "sw $1, 0($0)"} {
		full := many(api.Gate, s)
		has(t, "one more", 24, 8, append(full, s, sum)...)
		has(t, "others behind", 24, 10, append(full, sum, load, s, sum)...)
		has(t, "a branch and a sum", 24, 10, append(full, goTo, sum, sum)...)
		has(t, "a branch and a store", 24, 8, append(full, goTo, s, sum)...)
		has(t, "the last one in a slot", 24, 9, append(many(api.Gate-1, s), goTo, s, sum)...)
		has(t, "too many in a slot, others between", 24, 9, append(full, load, goTo, s, sum)...)
	}
	has(t, "of all kinds", 24, 10, "sb $1, 0($0)", "sh $1, 0($0)", "sw $1, 0($0)", "sb $1, 0($0)", sum, load, "sh $1, 0($0)", "sw $1, 0($0)", "sb $1, 0($0)", "sh $1, 0($0)", "sw $1, 0($0)", sum)
}

// P70
func TestMemoryEndsARegion(t *testing.T) {
	for _, c := range []struct {
		lines []string
		n     int
	}{
		{[]string{sum}, 1},
		{[]string{load, sum, store}, 3},
		{[]string{goTo, sum}, 2},
		{[]string{load, goTo, sum}, 3},
		{[]string{load, goTo}, 1},
		{[]string{goTo}, 0},
		{[]string{trap}, 0},
		{many(24, sum), 24},
		{many(23, sum), 23},
	} {
		at := uint32(api.RamSize - 4*len(c.lines))
		got, err := region.Form(memory(t, at, c.lines...), at, 24)
		var want region.Region
		var wantErr error
		if c.n > 0 {
			want = region.Region{PC: at, Ins: instructions(t, c.lines[:c.n]...), Pages: []int{63}}
		} else {
			wantErr = api.ErrNone
		}
		if !same(got, want) || err != wantErr {
			t.Errorf("%d lines: %v, %v, not %v, %v", len(c.lines), got, err, want, wantErr)
		}
	}
}

// P70
func TestPagesOfARegion(t *testing.T) {
	r := ram.New(nil)
	for _, c := range []struct {
		pc    uint32
		most  int
		pages []int
	}{
		{0, 1, []int{0}}, {0, 24, []int{0}}, {160, 24, []int{0}}, {164, 24, []int{0, 1}}, {164, 23, []int{0}},
		{248, 2, []int{0}}, {248, 3, []int{0, 1}}, {252, 1, []int{0}}, {252, 2, []int{0, 1}}, {252, 24, []int{0, 1}},
		{256, 1, []int{1}}, {256, 24, []int{1}}, {508, 2, []int{1, 2}}, {5116, 24, []int{19, 20}},
		{16124, 2, []int{62, 63}}, {16128, 24, []int{63}}, {16380, 24, []int{63}},
	} {
		if got, err := region.Form(r, c.pc, c.most); !slices.Equal(got.Pages, c.pages) || got.PC != c.pc || err != nil {
			t.Errorf("%d instructions from %d on: %d, pages %v, %v, not %v", c.most, c.pc, got.PC, got.Pages, err, c.pages)
		}
	}
}

// P70: only what is in the region counts.
func TestPagesOfABranchAndItsSlot(t *testing.T) {
	for _, c := range []struct {
		at    uint32
		slot  string
		n     int
		pages []int
	}{
		{252, trap, 1, []int{0}}, {248, trap, 1, []int{0}}, {252, load, 3, []int{0, 1}}, {248, load, 3, []int{0, 1}}, {244, load, 3, []int{0}},
	} {
		got, err := region.Form(memory(t, c.at, sum, goTo, c.slot, sum), c.at, 24)
		if len(got.Ins) != c.n || !slices.Equal(got.Pages, c.pages) || err != nil {
			t.Errorf("%s, from %d on: %v, %v", c.slot, c.at, got, err)
		}
	}
}

// P70, P3
func TestErrorsOfForm(t *testing.T) {
	r := memory(t, 0, trap)
	for _, c := range []struct {
		r    *ram.Ram
		pc   uint32
		most int
		err  error
	}{
		{nil, 0, 1, api.ErrShape}, {nil, 0, 0, api.ErrShape}, {nil, 1, 1, api.ErrShape}, {nil, 16384, 25, api.ErrShape}, {nil, math.MaxUint32, -1, api.ErrShape},
		{r, 0, 0, api.ErrBound}, {r, 0, -1, api.ErrBound}, {r, 0, 25, api.ErrBound}, {r, 0, math.MinInt, api.ErrBound}, {r, 0, math.MaxInt, api.ErrBound}, {r, 0, 1<<32 + 1, api.ErrBound},
		{r, 2, 0, api.ErrBound}, {r, 16384, 25, api.ErrBound}, {r, 16385, 25, api.ErrBound},
		{r, 1, 1, api.ErrAlign}, {r, 2, 24, api.ErrAlign}, {r, 3, 24, api.ErrAlign}, {r, 16383, 24, api.ErrAlign}, {r, 16385, 24, api.ErrAlign}, {r, math.MaxUint32, 24, api.ErrAlign}, {r, api.Console + 2, 24, api.ErrAlign},
		{r, 16384, 1, api.ErrFar}, {r, 16388, 24, api.ErrFar}, {r, api.Console, 24, api.ErrFar}, {r, 1 << 31, 24, api.ErrFar}, {r, math.MaxUint32 - 3, 24, api.ErrFar},
		{r, 0, 1, api.ErrNone}, {r, 0, 24, api.ErrNone}, {r, 16380, 24, api.ErrNone},
	} {
		got, err := region.Form(c.r, c.pc, c.most)
		var fault *api.Fault
		if err != c.err || errors.As(err, &fault) || !same(got, region.Region{}) {
			t.Errorf("%d instructions from %d on, memory %t: %v, %v, not %v", c.most, c.pc, c.r != nil, got, err, c.err)
		}
	}
}

// P71
func TestLen(t *testing.T) {
	for n := range 30 {
		for _, i := range []api.Ins{{}, {Op: api.ISw}, {Op: api.IJ}, {Op: -5, S: -1}} {
			if got := region.Len(region.Region{PC: 7, Ins: slices.Repeat([]api.Ins{i}, n), Pages: []int{1, 2, 3}}); got != 4*n {
				t.Errorf("%d instructions: %d", n, got)
			}
		}
	}
	if got := region.Len(region.Region{}); got != 0 {
		t.Errorf("none: %d", got)
	}
}

// P71: the last but one tells it, alone.
func TestEnds(t *testing.T) {
	for op := -1; op <= api.Ops; op++ {
		want := "on"
		if slices.Contains([]int{api.IJ, api.IJal, api.IJr, api.IJalr, api.IBeq, api.IBne, api.IBlez, api.IBgtz}, op) {
			want = "branch"
		}
		x, other, jump := api.Ins{Op: op}, api.Ins{Op: api.IAddu}, api.Ins{Op: api.IJ}
		for _, c := range []struct {
			ins  []api.Ins
			want string
		}{
			{[]api.Ins{x}, "on"},
			{[]api.Ins{x, other}, want},
			{[]api.Ins{other, x}, "on"},
			{[]api.Ins{x, jump}, want},
			{[]api.Ins{jump, x, other}, want},
			{[]api.Ins{other, other, x, other}, want},
			{[]api.Ins{other, x, other, other}, "on"},
		} {
			if got := region.Ends(region.Region{Ins: c.ins}); got != c.want {
				t.Errorf("%v: %q, not %q", c.ins, got, c.want)
			}
		}
	}
	for _, r := range []region.Region{{}, {Ins: []api.Ins{}}, {PC: 4, Pages: []int{1}}, {Ins: []api.Ins{{Op: math.MinInt}, {Op: math.MaxInt}}}} {
		if got := region.Ends(r); got != "on" {
			t.Errorf("%v: %q", r, got)
		}
	}
}

// P71, P3: what lies behind a list's length is not read.
func TestWhatLiesBehindAListIsNotRead(t *testing.T) {
	l := []api.Ins{{Op: api.IAddu}, {Op: api.IJ}, {Op: api.IAddu}}
	if r := (region.Region{Ins: l[:2]}); region.Ends(r) != "on" || region.Len(r) != 8 {
		t.Error(region.Ends(r), region.Len(r))
	}
	if r := (region.Region{Ins: l[1:2]}); region.Ends(r) != "on" || region.Len(r) != 4 {
		t.Error(region.Ends(r), region.Len(r))
	}
}

// isRegion tells whether kinds of instructions could be a region, by what the document says of a whole one.
func isRegion(kinds []string) bool {
	stores := 0
	for n, kind := range kinds {
		switch {
		case kind == "trap", kind == "branch" && n != len(kinds)-2:
			return false
		case kind == "store":
			stores++
		}
	}
	return stores <= api.Gate
}

// longest list of instructions from a place on that could be a region. It is what Form tells: behind the first trap, store too many, or branch with its slot there is none any more.
func longest(words []uint32, pc uint32, most int) []api.Ins {
	var l, best []api.Ins
	var kinds []string
	for n := int(pc / 4); n < len(words) && len(l) < most; n++ {
		i := code.Decode(words[n])
		l, kinds = append(l, i), append(kinds, code.Kind(i.Op))
		if isRegion(kinds) {
			best = slices.Clone(l)
		}
	}
	return best
}

// mixed words by a rule: each part of so many that follow one another has its own share of branches, traps and stores.
func mixed(t *testing.T, x uint32) []uint32 {
	t.Helper()
	texts := []string{sum, load, store, "sb $1, 3($2)", "sh $4, 2($5)", goTo, "jr $31", "jal 9", trap, "eret", "mult $1, $2", "lui $9, 4"}
	shares := []string{"00113333aab", "2222222222225", "22341a5", "0000000000000000001b", "2341020a0b028", "05", "333334444452", "567890ab"}
	program, err := asm.Assemble(texts, 0)
	if err != nil {
		t.Fatal(err)
	}
	words := make([]uint32, 0, api.RamSize/4)
	share := shares[0]
	for len(words) < api.RamSize/4 {
		x = x*1664525 + 1013904223
		if x>>8%40 == 0 {
			share = shares[x>>16%uint32(len(shares))]
		}
		letter := share[x>>20%uint32(len(share))]
		n := letter - '0'
		if letter >= 'a' {
			n = letter - 'a' + 10
		}
		words = append(words, program[n])
	}
	return words
}

// P70, P71, P72
func TestEveryRegionOfMixedWords(t *testing.T) {
	var lengths [api.MaxRegion + 1]int
	ends := map[string]int{}
	for seed := range uint32(3) {
		words := mixed(t, seed)
		r := ram.New(words)
		for pc := uint32(0); pc < api.RamSize; pc += 4 {
			for _, most := range []int{1, 2, 3, 4, 8, 9, 10, 12, 17, 23, 24} {
				got, err := region.Form(r, pc, most)
				want := longest(words, pc, most)
				if len(want) == 0 {
					if err != api.ErrNone || !same(got, region.Region{}) {
						t.Fatalf("%d from %d on: %v, %v", most, pc, got, err)
					}
					lengths[0]++
					continue
				}
				pages := []int{int(pc) / 256}
				if last := (int(pc) + 4*len(want) - 4) / 256; last != pages[0] {
					pages = append(pages, last)
				}
				if err != nil || !same(got, region.Region{PC: pc, Ins: want, Pages: pages}) {
					t.Fatalf("%d from %d on: %v, %v\nnot %v, %v", most, pc, got, err, want, pages)
				}
				end := "on"
				if n := len(want); n > 1 && slices.Contains([]int{api.IBne, api.IJr, api.IJal}, want[n-2].Op) {
					end = "branch"
				}
				if region.Len(got) != 4*len(want) || region.Ends(got) != end {
					t.Fatalf("%v: %d, %s", got, region.Len(got), region.Ends(got))
				}
				lengths[len(want)]++
				ends[end]++
			}
		}
	}
	if slices.Min(lengths[:]) < 10 || ends["on"] < 1000 || ends["branch"] < 1000 {
		t.Errorf("too few: %v, %v", lengths, ends)
	}
}

// P72: whatever the words are, those of a region's instructions are those of memory.
func TestARegionIsAsMemoryHasIt(t *testing.T) {
	words := mixed(t, 77)
	x := uint32(5)
	for n := range words {
		x = x*1664525 + 1013904223
		if x>>12%3 == 0 {
			words[n] = x ^ x>>13
		}
	}
	r := ram.New(words)
	seen := 0
	for pc := uint32(0); pc < api.RamSize; pc += 4 {
		got, err := region.Form(r, pc, 24)
		if err != nil {
			continue
		}
		for n, i := range got.Ins {
			seen++
			w, err := code.Encode(i)
			if has, _ := r.Load(got.PC+4*uint32(n), 4, false); err != nil || w != has {
				t.Fatalf("from %d on, instruction %d: %08x, %v, not %08x", pc, n, w, err, has)
			}
		}
	}
	if seen < 5000 {
		t.Errorf("only %d instructions", seen)
	}
}

// P72: a region that is formed again has what was stored meanwhile; one that was formed ahead of that stays.
func TestARegionOfMemoryThatHasChanged(t *testing.T) {
	lines := []string{sum, load, goTo, store, sum, sum, trap}
	r := memory(t, 0, lines...)
	first, err := region.Form(r, 0, 24)
	if err != nil || len(first.Ins) != 4 {
		t.Fatal(first, err)
	}
	// One byte makes a branch's register another one.
	if err := r.Store(9, 1, 0x42); err != nil {
		t.Fatal(err)
	}
	if got, err := region.Form(r, 0, 24); err != nil || !slices.Equal(got.Ins, instructions(t, sum, load, "bne $2, $2, 5", store)) {
		t.Error(got, err)
	}
	// It becomes a sum, so that the region goes on to the trap.
	if err := r.Store(8, 4, 604045319); err != nil {
		t.Fatal(err)
	}
	if got, err := region.Form(r, 0, 24); err != nil || !slices.Equal(got.Ins, instructions(t, sum, load, "addiu $1, $0, 7", store, sum, sum)) {
		t.Error(got, err)
	}
	if err := r.Store(0, 4, 12); err != nil {
		t.Fatal(err)
	}
	if got, err := region.Form(r, 0, 24); err != api.ErrNone {
		t.Error(got, err)
	}
	if !same(first, region.Region{Ins: instructions(t, lines[:4]...), Pages: []int{0}}) {
		t.Errorf("the first region has changed: %v", first)
	}
}

// P4
func TestFormOnlyReadsMemory(t *testing.T) {
	words := mixed(t, 9)
	r := ram.New(words)
	for _, page := range []int{0, 2, 63} {
		if err := r.Watch(page, true); err != nil {
			t.Fatal(err)
		}
	}
	if err := r.Store(516, 4, words[129]); err != nil {
		t.Fatal(err)
	}
	for pc := uint32(0); pc < api.RamSize+8; pc++ {
		region.Form(r, pc, int(pc%26))
	}
	if !slices.Equal(r.Words(), words) || !slices.Equal(r.Hits(), []int{2}) {
		t.Error("memory has changed")
	}
	for page := range 64 {
		if r.Watched(uint32(256*page)) != (page == 0 || page == 2 || page == 63) {
			t.Errorf("page %d: another watch", page)
		}
	}
}

// P4
func TestARegionIsNewMemory(t *testing.T) {
	lines := []string{sum, load, goTo, store}
	r := memory(t, 252, lines...)
	want := region.Region{PC: 252, Ins: instructions(t, lines...), Pages: []int{0, 1}}
	a, err := region.Form(r, 252, 24)
	if err != nil || !same(a, want) {
		t.Fatal(a, err)
	}
	b, _ := region.Form(r, 252, 24)
	for n := range a.Ins[:cap(a.Ins)] {
		a.Ins[:cap(a.Ins)][n] = api.Ins{Op: api.ISw, S: 9}
	}
	for n := range a.Pages[:cap(a.Pages)] {
		a.Pages[:cap(a.Pages)][n] = 50
	}
	c, _ := region.Form(r, 252, 24)
	if !same(b, want) || !same(c, want) {
		t.Errorf("%v, %v, not %v", b, c, want)
	}
}

// P4, P71
func TestLenAndEndsOnlyRead(t *testing.T) {
	r := region.Region{PC: 8, Ins: instructions(t, sum, goTo, store), Pages: []int{0}}
	if region.Len(r) != 12 || region.Ends(r) != "branch" {
		t.Error(region.Len(r), region.Ends(r))
	}
	if !same(r, region.Region{PC: 8, Ins: instructions(t, sum, goTo, store), Pages: []int{0}}) {
		t.Error(r)
	}
}
