package ir_test

import (
	"fmt"
	"math"
	"slices"
	"strings"
	"testing"

	"changeling/api"
	"changeling/asm"
	"changeling/bus"
	"changeling/code"
	"changeling/cpu"
	"changeling/ir"
	"changeling/ram"
	"changeling/region"
)

// instructions of lines, which stand in one text with a semicolon between.
func instructions(t *testing.T, lines string) []api.Ins {
	t.Helper()
	var l []api.Ins
	for _, line := range strings.Split(lines, "; ") {
		i, err := asm.Parse(line)
		if err != nil {
			t.Fatalf("%q: %v", line, err)
		}
		l = append(l, i)
	}
	return l
}

// lowered code of instructions at a place: it is well, and of so many.
func lowered(t *testing.T, pc uint32, l []api.Ins) ir.Code {
	t.Helper()
	c, err := ir.Lower(region.Region{PC: pc, Ins: l})
	if err != nil || ir.Check(c) != nil || c.PC != pc || c.Many != len(l) {
		t.Fatalf("%v at %d: %+v, %v, %v", l, pc, c, err, ir.Check(c))
	}
	return c
}

// place of regions that are held against a processor; it is away from where anyValue mostly goes.
const place = 2048

// sameAsSteps holds a region's code against steps of a processor, and tells whether it trapped. The region's own pages are watched, so that what is done is what stands there.
func sameAsSteps(t *testing.T, l []api.Ins, s api.State, r *ram.Ram) bool {
	t.Helper()
	for n, i := range l {
		w, err := code.Encode(i)
		if err != nil || r.Store(place+4*uint32(n), 4, w) != nil {
			t.Fatal(i, err)
		}
	}
	r.Watch(place/256, true)
	r.Hits()
	b := bus.New(r.Words())
	for page := range 64 {
		b.Ram().Watch(page, r.Watched(uint32(256*page)))
	}
	want, trap := s, -1
	for n := range l {
		exception := cpu.Step(&want, b)
		if exception >= 0 || len(b.Trace()) > 0 || len(b.Ram().Hits()) > 0 {
			trap = n
			break
		}
	}
	c := lowered(t, place, l)
	if trap >= 0 {
		traps(t, fmt.Sprint(l), c, s, r, trap)
		return true
	}
	leaves(t, fmt.Sprint(l), c, s, r, want)
	if !slices.Equal(r.Words(), b.Ram().Words()) || len(r.Hits()) > 0 {
		t.Errorf("%v: memory is not the same", l)
	}
	return false
}

// quiet state: no interrupt comes.
func quiet(next func() uint32) api.State {
	s := anyState(next, place)
	s.Compare = 0
	return s
}

// anyInstruction of a kind, of few registers, so that they meet.
func anyInstruction(next func() uint32, kinds ...string) api.Ins {
	var ops []int
	for op := range api.Ops {
		if slices.Contains(kinds, code.Kind(op)) {
			ops = append(ops, op)
		}
	}
	i := api.Ins{Op: ops[next()%uint32(len(ops))]}
	for _, letter := range code.Fields(i.Op) {
		switch letter {
		case 'S':
			i.S = int(next() % 5)
		case 'T':
			i.T = int(next() % 5)
		case 'D':
			i.D = int(next() % 5)
		case 'a':
			i.Imm = next() % 32
		case 'i':
			i.Imm = anyValue(next) % 65536
		case 'j':
			i.Imm = next() % (1 << 26)
		}
	}
	if kind := code.Kind(i.Op); (kind == "load" || kind == "store") && next()%8 > 0 {
		i.S, i.Imm = 0, next()%64
		if next()%4 > 0 {
			i.Imm &^= 3
		}
	}
	return i
}

// P83: every operation of a region, with all registers that it names being others, the same, or 0, and edges in them.
func TestEveryInstructionIsAsAStep(t *testing.T) {
	next := numbers(88172645)
	trapped := map[string][2]int{}
	for op := api.Bad + 1; op < api.Ops; op++ {
		if code.Kind(op) == "trap" {
			continue
		}
		for n := range 400 {
			i := anyInstruction(next, code.Kind(op))
			for i.Op != op {
				i = anyInstruction(next, code.Kind(op))
			}
			l := []api.Ins{i}
			if code.Kind(op) == "branch" {
				l = append(l, anyInstruction(next, "sum"))
			}
			s := quiet(next)
			if n%2 == 0 {
				s.R[3] = s.R[2]
			}
			name, _, _ := strings.Cut(fmt.Sprint(asm.Text(i)), " ")
			count := trapped[name]
			if sameAsSteps(t, l, s, anyMemory(next)) {
				count[1]++
			} else {
				count[0]++
			}
			trapped[name] = count
		}
	}
	for name, count := range trapped {
		if count[0] < 100 {
			t.Errorf("%s: left only %d times", name, count[0])
		}
	}
	for _, name := range []string{"add", "addi", "sub", "lw", "lh", "lhu", "sw", "sh", "sb", "lb", "lbu"} {
		if trapped[name][1] < 5 {
			t.Errorf("%s: trapped only %d times", name, trapped[name][1])
		}
	}
	for _, name := range []string{"sll", "addu", "subu", "div", "mult", "lui", "slt", "mfhi", "mtlo"} {
		if trapped[name][1] > 0 {
			t.Errorf("%s: trapped", name)
		}
	}
}

// anyRegion of so many instructions, perhaps with a branch.
func anyRegion(next func() uint32, many int) []api.Ins {
	var l []api.Ins
	stores := 0
	for n := range many {
		kinds := []string{"sum", "sum", "sum", "load", "store"}
		kind := kinds[next()%5]
		if n == many-2 && next()%3 > 0 {
			kind = "branch"
		}
		if kind == "store" {
			if stores++; stores > api.Gate {
				kind = "sum"
			}
		}
		i := anyInstruction(next, kind)
		if over := i.Op == api.IAdd || i.Op == api.IAddi || i.Op == api.ISub; over && next()%4 > 0 {
			i = api.Ins{Op: api.IMflo, D: 1}
		}
		l = append(l, i)
	}
	return l
}

// P83, P84
func TestRegionsAreAsSteps(t *testing.T) {
	next := numbers(123456789)
	trapped := [2]int{}
	for range 4000 {
		l := anyRegion(next, int(1+next()%24))
		if sameAsSteps(t, l, quiet(next), anyMemory(next)) {
			trapped[1]++
		} else {
			trapped[0]++
		}
		if t.Failed() {
			return
		}
	}
	if min(trapped[0], trapped[1]) < 500 {
		t.Errorf("too few: %v", trapped)
	}
}

// P83: a branch goes by what registers had ahead of its slot; links are there in the slot.
func TestBranchesDecideAheadOfTheirSlot(t *testing.T) {
	s := full()
	s.R[1], s.R[2], s.R[3], s.R[4] = 5, 5, 0, 1<<32-1
	for _, c := range []struct {
		lines string
		to    uint32
		sets  map[int]uint32
	}{
		{"beq $1, $2, 5; addiu $2, $2, 1", 88, map[int]uint32{2: 6}}, {"beq $1, $3, 5; addiu $3, $0, 5", 72, map[int]uint32{3: 5}}, {"beq $0, $3, -17; addiu $3, $3, 1", 0, map[int]uint32{3: 1}},
		{"bne $1, $2, 5; addiu $2, $2, 1", 72, map[int]uint32{2: 6}}, {"bne $1, $3, 5; addiu $3, $0, 5", 88, map[int]uint32{3: 5}}, {"bne $1, $1, 5; addiu $1, $0, 9", 72, map[int]uint32{1: 9}},
		{"blez $1, 9; addiu $1, $0, -3", 72, map[int]uint32{1: 1<<32 - 3}}, {"blez $3, 9; addiu $3, $0, 3", 104, map[int]uint32{3: 3}}, {"blez $4, 9; addiu $4, $0, 3", 104, map[int]uint32{4: 3}}, {"blez $0, 0; sll $0, $0, 0", 68, nil},
		{"bgtz $1, 9; addiu $1, $0, -3", 104, map[int]uint32{1: 1<<32 - 3}}, {"bgtz $3, 9; addiu $3, $0, 3", 72, map[int]uint32{3: 3}}, {"bgtz $4, 9; addiu $4, $0, 3", 72, map[int]uint32{4: 3}}, {"bgtz $0, 9; sll $0, $0, 0", 72, nil},
		{"beq $1, $2, 1; addiu $2, $2, 1", 72, map[int]uint32{2: 6}}, {"bne $1, $3, 1; addiu $2, $2, 1", 72, map[int]uint32{2: 6}}, {"bgtz $1, -32768; sll $0, $0, 0", 1<<32 - 131004, nil}, {"bgtz $1, 32767; sll $0, $0, 0", 131136, nil},
		{"j 99; addiu $1, $1, 1", 396, map[int]uint32{1: 6}}, {"j 67108863; sll $0, $0, 0", 1<<28 - 4, nil}, {"jal 99; addiu $1, $31, 1", 396, map[int]uint32{31: 72, 1: 73}}, {"jal 99; ori $31, $0, 3", 396, map[int]uint32{31: 3}},
		{"jr $1; addiu $1, $1, 7", 5, map[int]uint32{1: 12}}, {"jr $0; addiu $1, $1, 7", 0, map[int]uint32{1: 12}}, {"jr $4; sll $0, $0, 0", 1<<32 - 1, nil},
		{"jalr $6, $1; addu $7, $6, $1", 5, map[int]uint32{6: 72, 7: 77}}, {"jalr $1, $1; addu $7, $1, $1", 5, map[int]uint32{1: 72, 7: 144}}, {"jalr $0, $1; addiu $1, $0, 1", 5, map[int]uint32{1: 1}}, {"jalr $6, $0; addiu $6, $6, 1", 0, map[int]uint32{6: 73}},
		{"beq $1, $2, 5; mult $1, $4", 88, nil}, {"bne $1, $3, 5; lw $2, 0($0)", 88, map[int]uint32{2: 0x01020304}},
	} {
		want := left(s, 2, c.to)
		for n, v := range c.sets {
			want.R[n] = v
		}
		if strings.Contains(c.lines, "mult") {
			want.Hi, want.Lo = 1<<32-1, 1<<32-5
		}
		leaves(t, c.lines, lowered(t, 64, instructions(t, c.lines)), s, ram.New([]uint32{0x01020304}), want)
	}
}

// P83: places are of 32 bits, and a jump keeps the highest four of the place behind it.
func TestBranchesFromAnyPlace(t *testing.T) {
	for _, c := range []struct {
		pc    uint32
		lines string
		to    uint32
		link  uint32
	}{
		{0x1FFFFFF8, "j 1; sll $0, $0, 0", 0x10000004, 0}, {0x1FFFFFFC, "j 1; sll $0, $0, 0", 0x20000004, 0}, {0x1FFFFFF8, "sll $0, $0, 0; j 1; sll $0, $0, 0", 0x20000004, 0}, {0xFFFFFFFC, "j 5; sll $0, $0, 0", 20, 0}, {0xF0000000, "j 67108863; sll $0, $0, 0", 0xFFFFFFFC, 0},
		{0xFFFFFFF8, "jal 2; sll $0, $0, 0", 0xF0000008, 0}, {0xFFFFFFF4, "jal 2; sll $0, $0, 0", 0xF0000008, 0xFFFFFFFC}, {0xFFFFFFFC, "jal 2; sll $0, $0, 0", 8, 4}, {0x30000000, "sll $0, $0, 0; jalr $31, $0; sll $0, $0, 0", 0, 0x3000000C},
		{0, "beq $0, $0, -2; sll $0, $0, 0", 0xFFFFFFFC, 0}, {0xFFFFFFF0, "beq $0, $0, 5; sll $0, $0, 0", 8, 0}, {0xFFFFFFF8, "bne $0, $0, 5; sll $0, $0, 0", 0, 0}, {0xFFFFFFF0, "bgtz $0, 5; sll $0, $0, 0", 0xFFFFFFF8, 0},
		{0xFFFFFFF8, "sll $0, $0, 0; sll $0, $0, 0; sll $0, $0, 0", 4, 0}, {16380, "sll $0, $0, 0", 16384, 0}, {16380, "beq $0, $0, 3; sll $0, $0, 0", 16396, 0},
	} {
		s := full()
		s.PC, s.Next = c.pc, c.pc+4
		l := instructions(t, c.lines)
		want := left(s, len(l), c.to)
		if strings.Contains(c.lines, "jal") {
			want.R[31] = c.link
		}
		leaves(t, fmt.Sprint(c), lowered(t, c.pc, l), s, ram.New(nil), want)
	}
}

// P83: what memory has at PC makes no difference, nor an interrupt that would come, nor a store to where the region stands.
func TestInstructionsAreTheRegions(t *testing.T) {
	s := full()
	s.Status, s.Compare = 1, 1
	r := ram.New(slices.Repeat([]uint32{12}, 40))
	want := left(s, 5, 84)
	want.R[1], want.R[2], want.R[3] = 3, 12, 12
	leaves(t, "over itself", lowered(t, 64, instructions(t, "addiu $1, $0, 3; lw $2, 64($0); lw $3, 76($0); sw $1, 76($0); sw $1, 80($0)")), s, r, want)
	if words := r.Words(); words[16] != 12 || words[19] != 3 || words[20] != 3 {
		t.Errorf("%v", words[16:21])
	}
}

// P83: register 0 stays 0, and what would be written there may trap all the same.
func TestRegisterZero(t *testing.T) {
	s := full()
	s.R[1], s.R[2] = 1<<31-1, 2
	for _, line := range []string{
		"addu $0, $1, $1", "addiu $0, $1, 5", "add $0, $2, $2", "addi $0, $2, 5", "sub $0, $2, $1", "sll $0, $1, 3", "srav $0, $1, $2", "slti $0, $2, 5", "sltu $0, $2, $1", "lui $0, 7", "ori $0, $0, 7", "mfhi $0", "mflo $0", "nor $0, $1, $2", "lw $0, 0($0)", "lb $0, 3($0)", "lhu $0, 2($0)",
	} {
		leaves(t, line, lowered(t, 64, instructions(t, line)), s, ram.New([]uint32{ones}), left(s, 1, 68))
		want := left(s, 2, 72)
		want.R[3] = 1
		leaves(t, line+", then 0 is read", lowered(t, 64, instructions(t, line+"; addiu $3, $0, 1")), s, ram.New([]uint32{ones}), want)
	}
	for _, line := range []string{"add $0, $1, $2", "addi $0, $1, 1", "sub $0, $0, $3", "lw $0, 2($0)", "lw $0, 16384($0)", "lb $0, -1($0)"} {
		s.R[3] = 1 << 31
		traps(t, line, lowered(t, 64, instructions(t, line)), s, ram.New(nil), 0)
	}
}

// P83: a device is none of a code's, whatever size is asked for.
func TestDevicesTrap(t *testing.T) {
	s := full()
	s.R[4] = 1 << 16
	for _, line := range []string{"lw $1, 0($4)", "lw $1, 4($4)", "lw $1, 8($4)", "lw $1, 12($4)", "sw $1, 0($4)", "sw $1, 4($4)", "sw $1, 8($4)", "sw $1, 12($4)", "lb $1, 0($4)", "sh $1, 8($4)", "lw $1, 16($4)"} {
		for at, lines := range []string{line, "addiu $1, $1, 1; " + line, "sw $1, 0($0); sw $1, 4($0); " + line, "sw $1, 0($0); mult $1, $1; jal 5; " + line} {
			traps(t, lines, lowered(t, 64, instructions(t, lines)), s, ram.New(nil), at)
		}
	}
}

// P83, P80: as much as a region can have is well.
func TestTheGreatestRegions(t *testing.T) {
	for _, line := range []string{"addi $1, $2, 3", "add $1, $2, $3", "div $1, $2", "sll $1, $1, 1", "lw $1, 0($0)", "lb $0, 0($0)", "addu $0, $0, $0"} {
		for _, end := range []string{line + "; " + line, "beq $1, $2, 3; " + line, "jalr $1, $2; " + line} {
			l := slices.Concat(slices.Repeat(instructions(t, line), 22), instructions(t, end))
			lowered(t, 64, l)
		}
	}
	stores := slices.Repeat(instructions(t, "sw $1, 4($0)"), api.Gate)
	lowered(t, 64, stores)
	lowered(t, 64, slices.Concat(stores[1:], instructions(t, "j 5; sb $1, 4($0)")))
}

// P83, P3
func TestErrorsOfLower(t *testing.T) {
	sum, store, jump := api.Ins{Op: api.IAddu}, api.Ins{Op: api.ISw}, api.Ins{Op: api.IBeq}
	list := func(n int, i api.Ins, more ...api.Ins) []api.Ins {
		return append(slices.Repeat([]api.Ins{i}, n), more...)
	}
	type wrong struct {
		ins []api.Ins
		err error
	}
	cases := []wrong{
		{nil, api.ErrNone}, {[]api.Ins{}, api.ErrNone},
		{list(25, sum), api.ErrBound}, {list(25, api.Ins{}), api.ErrBound}, {list(25, store), api.ErrBound}, {list(23, sum, jump, sum), api.ErrBound}, {list(300, jump), api.ErrBound},
		{list(9, store), api.ErrKind}, {list(8, store, jump, store), api.ErrKind}, {list(8, store, sum, api.Ins{Op: api.ISb}), api.ErrKind},
		{list(8, store), nil}, {list(7, store, jump, store), nil}, {list(24, sum), nil}, {list(22, sum, jump, sum), nil},
	}
	for _, op := range []int{api.IJ, api.IJal, api.IJr, api.IJalr, api.IBeq, api.IBne, api.IBlez, api.IBgtz} {
		jump.Op = op
		cases = append(cases, wrong{list(1, jump), api.ErrKind}, wrong{list(2, jump), api.ErrKind}, wrong{list(3, jump), api.ErrKind}, wrong{list(1, sum, jump), api.ErrKind}, wrong{list(1, jump, sum, sum), api.ErrKind}, wrong{list(1, jump, sum, jump, sum), api.ErrKind}, wrong{list(5, sum, jump, sum, sum), api.ErrKind}, wrong{list(3, sum, jump, sum), nil}, wrong{list(1, jump, sum), nil})
	}
	for _, op := range []int{api.Bad, api.ISyscall, api.IBreak, api.IMfc0, api.IMtc0, api.IEret, api.Ops, api.Ops + 1, -1, math.MaxInt, math.MinInt} {
		i := api.Ins{Op: op}
		cases = append(cases, wrong{list(1, i), api.ErrKind}, wrong{list(1, sum, i), api.ErrKind}, wrong{list(1, i, sum), api.ErrKind}, wrong{list(1, jump, i), api.ErrKind}, wrong{list(24, i), api.ErrKind})
	}
	for _, i := range []api.Ins{
		{Op: api.IAddu, S: 32}, {Op: api.IAddu, T: -1}, {Op: api.IAddu, D: math.MaxInt}, {Op: api.IAddu, Imm: 1}, {Op: api.ISll, Imm: 32}, {Op: api.ISll, S: 1}, {Op: api.IAddiu, Imm: 65536}, {Op: api.IAddiu, D: 1}, {Op: api.ILui, S: 1}, {Op: api.IMult, D: 1}, {Op: api.ILw, Imm: 1 << 31}, {Op: api.ISw, T: 32}, {Op: api.ISb, S: math.MinInt},
	} {
		cases = append(cases, wrong{list(1, i), api.ErrKind}, wrong{list(2, sum, i), api.ErrKind}, wrong{list(1, i, sum), api.ErrKind}, wrong{list(1, jump, i), api.ErrKind})
	}
	for _, i := range []api.Ins{{Op: api.IJ, Imm: 1 << 26}, {Op: api.IJr, T: 1}, {Op: api.IBeq, Imm: 65536}, {Op: api.IBlez, T: 1}, {Op: api.IJalr, S: 32}} {
		cases = append(cases, wrong{list(1, i, sum), api.ErrKind})
	}
	for _, c := range cases {
		got, err := ir.Lower(region.Region{PC: 4, Ins: c.ins, Pages: []int{0}})
		if err != c.err || err != nil && (got.PC != 0 || got.Many != 0 || len(got.Ops) != 0) || err == nil && ir.Check(got) != nil {
			t.Errorf("%v: %+v, %v, not %v", c.ins, got, err, c.err)
		}
	}
}

// P83: a region that Form makes is lowered, whatever its pages are said to be.
func TestPagesMakeNoDifference(t *testing.T) {
	words, err := asm.Assemble([]string{"addiu $1, $1, 1", "lw $2, 8($0)", "bne $1, $0, -3", "sw $2, 12($0)"}, 0)
	if err != nil {
		t.Fatal(err)
	}
	r, err := region.Form(ram.New(words), 0, 24)
	if err != nil {
		t.Fatal(err)
	}
	want, err := ir.Lower(r)
	if err != nil || ir.Check(want) != nil {
		t.Fatal(want, err)
	}
	for _, pages := range [][]int{nil, {}, {7}, {-1, 99, 3}, make([]int, 100)} {
		r.Pages = pages
		if got, err := ir.Lower(r); err != nil || got.PC != want.PC || got.Many != want.Many || !slices.Equal(got.Ops, want.Ops) {
			t.Errorf("%v: %+v, %v", pages, got, err)
		}
	}
}

// P4, P3: a region is only read, up to its length; a code is new memory.
func TestLowerOnlyReads(t *testing.T) {
	l := append(instructions(t, "addi $1, $2, 3; jal 5; sw $2, 4($0)"), api.Ins{Op: api.ISyscall})
	r := region.Region{PC: 64, Ins: l[:3], Pages: []int{0}}
	first, err := ir.Lower(r)
	if err != nil {
		t.Fatal(err)
	}
	was := slices.Clone(first.Ops)
	second, _ := ir.Lower(r)
	for n := range first.Ops[:cap(first.Ops)] {
		first.Ops[:cap(first.Ops)][n] = api.Op{Kind: "what"}
	}
	l[0] = api.Ins{}
	if !slices.Equal(second.Ops, was) || l[3].Op != api.ISyscall || !slices.Equal(l[1:3], instructions(t, "jal 5; sw $2, 4($0)")) || !slices.Equal(r.Pages, []int{0}) {
		t.Errorf("%v, %v", second.Ops, r)
	}
}
