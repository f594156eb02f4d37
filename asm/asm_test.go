package asm_test

import (
	"errors"
	"math"
	"strings"
	"testing"

	"changeling/api"
	"changeling/asm"
	"changeling/code"
)

// texts of instructions, every operation among them, and the edges of every kind of number.
func texts() map[string]api.Ins {
	return map[string]api.Ins{
		"sll $3, $2, 0":   {Op: api.ISll, T: 2, D: 3},
		"srl $3, $2, 1":   {Op: api.ISrl, T: 2, D: 3, Imm: 1},
		"sra $0, $31, 31": {Op: api.ISra, T: 31, Imm: 31},
		"sllv $1, $2, $3": {Op: api.ISllv, S: 3, T: 2, D: 1},
		"srlv $1, $2, $3": {Op: api.ISrlv, S: 3, T: 2, D: 1},
		"srav $1, $2, $3": {Op: api.ISrav, S: 3, T: 2, D: 1},
		"jr $31":          {Op: api.IJr, S: 31},
		"jalr $31, $3":    {Op: api.IJalr, S: 3, D: 31},
		"syscall":         {Op: api.ISyscall},
		"break":           {Op: api.IBreak},
		"mfhi $10":        {Op: api.IMfhi, D: 10},
		"mthi $9":         {Op: api.IMthi, S: 9},
		"mflo $8":         {Op: api.IMflo, D: 8},
		"mtlo $7":         {Op: api.IMtlo, S: 7},
		"mult $2, $3":     {Op: api.IMult, S: 2, T: 3},
		"multu $2, $3":    {Op: api.IMultu, S: 2, T: 3},
		"div $2, $3":      {Op: api.IDiv, S: 2, T: 3},
		"divu $2, $3":     {Op: api.IDivu, S: 2, T: 3},
		"add $1, $2, $3":  {Op: api.IAdd, S: 2, T: 3, D: 1},
		"addu $1, $2, $3": {Op: api.IAddu, S: 2, T: 3, D: 1},
		"sub $1, $2, $3":  {Op: api.ISub, S: 2, T: 3, D: 1},
		"subu $1, $2, $3": {Op: api.ISubu, S: 2, T: 3, D: 1},
		"and $1, $2, $3":  {Op: api.IAnd, S: 2, T: 3, D: 1},
		"or $1, $2, $3":   {Op: api.IOr, S: 2, T: 3, D: 1},
		"xor $1, $2, $3":  {Op: api.IXor, S: 2, T: 3, D: 1},
		"nor $1, $2, $3":  {Op: api.INor, S: 2, T: 3, D: 1},
		"slt $1, $2, $3":  {Op: api.ISlt, S: 2, T: 3, D: 1},
		"sltu $1, $2, $3": {Op: api.ISltu, S: 2, T: 3, D: 1},

		"j 0":                 {Op: api.IJ},
		"j 67108863":          {Op: api.IJ, Imm: 1<<26 - 1},
		"jal 33554432":        {Op: api.IJal, Imm: 1 << 25},
		"beq $2, $3, 32767":   {Op: api.IBeq, S: 2, T: 3, Imm: 32767},
		"bne $2, $3, -32768":  {Op: api.IBne, S: 2, T: 3, Imm: 32768},
		"blez $2, -1":         {Op: api.IBlez, S: 2, Imm: 65535},
		"bgtz $2, 10":         {Op: api.IBgtz, S: 2, Imm: 10},
		"addi $1, $2, -32768": {Op: api.IAddi, S: 2, T: 1, Imm: 32768},
		"addiu $1, $0, 7":     {Op: api.IAddiu, T: 1, Imm: 7},
		"slti $1, $2, 32767":  {Op: api.ISlti, S: 2, T: 1, Imm: 32767},
		"sltiu $1, $2, -2":    {Op: api.ISltiu, S: 2, T: 1, Imm: 65534},
		"andi $1, $2, 65535":  {Op: api.IAndi, S: 2, T: 1, Imm: 65535},
		"ori $1, $2, 32768":   {Op: api.IOri, S: 2, T: 1, Imm: 32768},
		"xori $1, $2, 0":      {Op: api.IXori, S: 2, T: 1},
		"lui $1, 65535":       {Op: api.ILui, T: 1, Imm: 65535},
		"mfc0 $1, $12":        {Op: api.IMfc0, T: 1, D: 12},
		"mtc0 $1, $12":        {Op: api.IMtc0, T: 1, D: 12},
		"eret":                {Op: api.IEret},
		"lb $2, -32768($4)":   {Op: api.ILb, S: 4, T: 2, Imm: 32768},
		"lh $2, 32767($4)":    {Op: api.ILh, S: 4, T: 2, Imm: 32767},
		"lw $2, -4($4)":       {Op: api.ILw, S: 4, T: 2, Imm: 65532},
		"lbu $2, 100($31)":    {Op: api.ILbu, S: 31, T: 2, Imm: 100},
		"lhu $2, 20($4)":      {Op: api.ILhu, S: 4, T: 2, Imm: 20},
		"sb $2, 0($0)":        {Op: api.ISb, T: 2},
		"sh $2, 2($4)":        {Op: api.ISh, S: 4, T: 2, Imm: 2},
		"sw $2, -1($4)":       {Op: api.ISw, S: 4, T: 2, Imm: 65535},
	}
}

// P30, P31
func TestEveryOperationHasItsText(t *testing.T) {
	seen := map[int]bool{}
	for s, i := range texts() {
		seen[i.Op] = true
		if got, err := asm.Text(i); got != s || err != nil {
			t.Errorf("%v: %q, %v, not %q", i, got, err, s)
		}
		if got, err := asm.Parse(s); got != i || err != nil {
			t.Errorf("%q: %v, %v, not %v", s, got, err, i)
		}
	}
	if len(seen) != api.Ops-1 {
		t.Errorf("%d operations, not %d", len(seen), api.Ops-1)
	}
}

// P31
func TestTextHasTheErrorsOfEncode(t *testing.T) {
	for _, i := range []api.Ins{
		{}, {Op: -1}, {Op: api.Ops}, {Op: math.MinInt}, {Op: math.MaxInt, S: 40},
		{Op: api.IAdd, S: 32}, {Op: api.IAdd, T: -1}, {Op: api.IAdd, D: math.MaxInt}, {Op: api.IAdd, Imm: 1},
		{Op: api.ISll, Imm: 32}, {Op: api.IAddi, Imm: 65536}, {Op: api.IAddi, Imm: math.MaxUint32}, {Op: api.IJ, Imm: 1 << 26}, {Op: api.ISyscall, D: 1},
	} {
		_, want := code.Encode(i)
		if want == nil {
			t.Fatalf("%v is an instruction", i)
		}
		if got, err := asm.Text(i); got != "" || err != want {
			t.Errorf("%v: %q %v, not %v", i, got, err, want)
		}
	}
}

// refuse that Parse answers anything but this bare error.
func refuse(t *testing.T, s string, want error) {
	t.Helper()
	if i, err := asm.Parse(s); i != (api.Ins{}) || err != want {
		t.Errorf("%q: %v %v, not %v", s, i, err, want)
	}
}

// P31
func TestParseOfNoOperation(t *testing.T) {
	for _, s := range []string{
		"", " ", " add $1, $2, $3", "what", "what $1", "bad", "Add $1, $2, $3", "ADD", "add\t$1, $2, $3", "add,", "syscall\n", "lw$2, 4($4)", ".word 1", "a:", "\xff", "ad", "addd $1, $2, $3", strings.Repeat("j", 100000),
	} {
		refuse(t, s, api.ErrName)
	}
}

// P31
func TestParseOfNoText(t *testing.T) {
	for _, s := range []string{
		"add", "add ", "jr", "j", "j ", "lw", "syscall ", "eret $1", "break 0",
		"add $1, $2", "add $1, $2, ", "add $1, $2, $", "add $1, $2, $3, $4", "add $1, $2, $3 ", "add $1, $2, $3,", "add $1, $2, $3\n",
		"add $1,$2, $3", "add $1 , $2, $3", "add $1,  $2, $3", "add  $1, $2, $3", "add $1 $2 $3", "add 1, 2, 3", "add $1, $2, 3", "add $1, $2, $x", "add $1, $2, x",
		"add $01, $2, $3", "add $1, $00, $3", "add $-1, $2, $3", "add $-0, $2, $3", "add $+1, $2, $3", "add $ 1, $2, $3",
		"sll $1, $2, $3", "sll $1, $2, -0", "sll $1, $2, 01", "sll $1, $2, +1", "sll $1, $2, 1.0", "sll $1, $2, 0x1", "sll $1, $2, 1_0", "sll $1, $2, --1", "sll $1, $2, -", "sll $1, $2, 1-", "sll $1, $2, 1-1", "sll $1, $2, -01", "sll $1, $2, \u0661",
		"beq $1, $2, x", "j x", "j $1", "jal -", "jr x", "mfhi 1",
		"lw $2, 4", "lw $2, 4(", "lw $2, 4($4", "lw $2, 4($4)) ", "lw $2, 4($4) ", "lw $2, ($4)", "lw $2, $4", "lw $2, 4 ($4)", "lw $2, 4(4)", "lw $2, 4($)", "lw $2, 4($4", "lw $2, -($4)", "lw $2, 4[$4]", "lw $2, $4, 4", "lw 2, 4($4)",
	} {
		refuse(t, s, api.ErrText)
	}
}

// P31: eleven digits are no number, whatever stands for them; ten are one, though a great one.
func TestParseOfNumbersOfManyDigits(t *testing.T) {
	for _, s := range []string{"j N", "sll $1, $2, N", "addi $1, $2, N", "ori $1, $2, N", "lw $1, N($2)", "add $N, $1, $2", "lw $1, 0($N)"} {
		for n, want := range map[string]error{
			"1234567890": api.ErrBound, "9999999999": api.ErrBound, "10000000000": api.ErrText, "12345678901": api.ErrText, "00000000001": api.ErrText,
			"18446744073709551616": api.ErrText, "340282366920938463463374607431768211457": api.ErrText, strings.Repeat("1", 100000): api.ErrText,
		} {
			refuse(t, strings.Replace(s, "N", n, 1), want)
			if !strings.Contains(s, "$N") {
				refuse(t, strings.Replace(s, "N", "-"+n, 1), want)
			}
		}
	}
}

// P31
func TestParseOfNumbersOutOfBounds(t *testing.T) {
	for _, s := range []string{
		"add $32, $2, $3", "add $1, $32, $3", "add $1, $2, $32", "add $99, $99, $99", "jr $32", "mfc0 $32, $0", "mfc0 $0, $32",
		"sll $1, $2, 32", "sll $1, $2, -1", "srl $32, $2, 1",
		"addi $1, $2, 32768", "addi $1, $2, -32769", "addi $1, $2, 65535", "beq $1, $2, 32768", "bne $1, $2, -32769", "blez $1, 32768",
		"andi $1, $2, -1", "andi $1, $2, 65536", "ori $1, $2, -1", "ori $1, $2, 65536", "xori $1, $2, -1", "xori $1, $2, 65536", "lui $1, -1", "lui $1, 65536",
		"j 67108864", "j -1", "jal 4294967296", "lw $2, 32768($4)", "lw $2, -32769($4)", "lw $2, 0($32)", "sw $32, 0($3)",
	} {
		refuse(t, s, api.ErrBound)
	}
}

// P31: what is named first is told, wherever it stands.
func TestParseTellsTextAheadOfBound(t *testing.T) {
	for _, s := range []string{"add $32, $2, x", "add $32, $2, $3 ", "sll $1, $32, -0", "lw $2, 99999($4", "addi $99, $99, 12345678901"} {
		refuse(t, s, api.ErrText)
	}
	refuse(t, "what $32, x", api.ErrName)
}

// P31: a text that is changed in one place is read only if it is again what Text makes.
func TestParseTakesWhatTextMakesJustSo(t *testing.T) {
	check := func(s string) {
		i, err := asm.Parse(s)
		if err != nil {
			if i != (api.Ins{}) {
				t.Fatalf("%q: %v %v", s, i, err)
			}
			return
		}
		if again, err := asm.Text(i); again != s || err != nil {
			t.Fatalf("%q: %v: %q %v", s, i, again, err)
		}
	}
	for s := range texts() {
		for n := range len(s) + 1 {
			check(s[:n])
			check(s[n:])
			for _, mark := range []string{"", " ", ",", "$", "-", "+", "0", "1", "9", "(", ")", "_", ".", "u", "\t", "\xff"} {
				check(s[:n] + mark + s[n:])
				if n < len(s) {
					check(s[:n] + mark + s[n+1:])
				}
			}
		}
	}
}

// P33
func TestAnInstructionIsReadAsItWasWritten(t *testing.T) {
	many := 0
	check := func(i api.Ins) {
		s, err := asm.Text(i)
		if err != nil {
			t.Fatalf("%v: %v", i, err)
		}
		if got, err := asm.Parse(s); got != i || err != nil {
			t.Fatalf("%v: %q: %v %v", i, s, got, err)
		}
		w, err := asm.Assemble([]string{s}, 0)
		if want, _ := code.Encode(i); len(w) != 1 || w[0] != want || err != nil {
			t.Fatalf("%q: %v %v, not %d", s, w, err, want)
		}
		many++
	}
	x := uint32(88172645)
	for range 60000 {
		x = x*1664525 + 1013904223
		y := x ^ x>>13
		for _, w := range []uint32{y, y & 0x03FFF83F, y&0x001FF800 | 16<<26} {
			if i := code.Decode(w); i.Op != api.Bad {
				check(i)
			}
		}
	}
	for imm := uint32(0); imm < 1<<16; imm += 1 + imm%7 {
		check(api.Ins{Op: api.ILh, S: int(imm % 32), T: int(imm / 32 % 32), Imm: imm})
		check(api.Ins{Op: api.IXori, S: int(imm % 32), T: int(imm / 32 % 32), Imm: imm})
	}
	if many < 50000 {
		t.Errorf("only %d instructions", many)
	}
}

// assembled holds an answer of Assemble that is to be well against its words.
func assembled(t *testing.T, base uint32, lines []string, want ...uint32) {
	t.Helper()
	got, err := asm.Assemble(lines, base)
	if err != nil || len(got) != len(want) {
		t.Errorf("%q: %x %v, not %x", lines, got, err, want)
		return
	}
	for n := range want {
		if got[n] != want[n] {
			t.Errorf("%q: %x, not %x", lines, got, want)
			return
		}
	}
}

// P32
func TestAssembleOfLines(t *testing.T) {
	assembled(t, 64, []string{"a:", "addiu $1, $0, 7", "b:", "bne $1, $0, a", "beq $0, $0, end", "j b", "end:", ".word 4294967295", "blez $1, 3"},
		0x24010007, 0x1420FFFE, 0x10000001, 0x08000011, 0xFFFFFFFF, 0x18200003)
	assembled(t, 8, nil)
	assembled(t, 8, []string{})
	assembled(t, 8, []string{"a:", "b:"})
	assembled(t, 0, []string{".word 0", ".word 10", ".word 1234567890"}, 0, 10, 1234567890)
}

// P32: a name may be an operation's, or the longest one, or of one letter; what looks like a number or a register is none.
func TestAssembleOfNames(t *testing.T) {
	for _, name := range []string{"a", "z", "a0", "z9", "add", "j", "word", "twelvebytes1", "x99999999999", "sp"} {
		assembled(t, 0, []string{"j " + name, name + ":"}, 0x08000001)
	}
	for _, name := range []string{"", "A", "aB", "1", "1a", "thirteenbytes", "a b", " a", "a ", "a_b", "a-b", "$1", "a:", ".a", "\u00e9", "a\u00e9", "a\xff", "@", "`", "{", "a/", "a;", strings.Repeat("a", 100000)} {
		fails(t, 0, 1, api.ErrText, "syscall", name+":")
	}
}

// P32: of how many words each branch's name is away, ahead and behind.
func TestAssembleOfBranches(t *testing.T) {
	for op, word := range map[string]uint32{"beq $1, $2, ": 0x10220000, "bne $1, $2, ": 0x14220000, "blez $1, ": 0x18200000, "bgtz $1, ": 0x1C200000} {
		for _, base := range []uint32{0, 64, 1<<28 - 4, math.MaxUint32 - 3} {
			assembled(t, base, []string{op + "x", "x:"}, word)
			assembled(t, base, []string{"x:", op + "x"}, word|0xFFFF)
			assembled(t, base, []string{op + "x", "a:", ".word 5", "x:"}, word|1, 5)
			assembled(t, base, []string{"x:", ".word 5", "y:", op + "x"}, 5, word|0xFFFE)
			assembled(t, base, []string{op + "-1", op + "3"}, word|0xFFFF, word|3)
		}
	}
}

// P32
func TestAssembleOfBranchesOverAllLines(t *testing.T) {
	lines := make([]string, api.MaxLines)
	for n := range lines {
		lines[n] = ".word 7"
	}
	lines[0], lines[1], lines[198], lines[199] = "first:", "beq $0, $0, last", "blez $0, first", "last:"
	w, err := asm.Assemble(lines, 4)
	if err != nil || len(w) != 198 || w[0] != 0x10000000+197 || w[197] != 0x18000000+65536-198 {
		t.Errorf("%x %v", w, err)
	}
}

// P32: the place of a name over 4, where its highest four bits are those of the place behind the jump.
func TestAssembleOfJumps(t *testing.T) {
	for op, word := range map[string]uint32{"j ": 0x08000000, "jal ": 0x0C000000} {
		assembled(t, 64, []string{op + "x", "x:"}, word|17)
		assembled(t, 64, []string{"x:", op + "x"}, word|16)
		assembled(t, 64, []string{op + "5"}, word|5)
		assembled(t, 0xF0000010, []string{op + "x", "x:"}, word|5)
		assembled(t, 1<<28-8, []string{op + "x", "x:"}, word|0x03FFFFFF)
		assembled(t, 1<<28-4, []string{op + "x", "x:"}, word)
		assembled(t, math.MaxUint32-3, []string{op + "x", "x:"}, word)
		fails(t, 1<<28-8, 0, api.ErrFar, op+"x", "syscall", "x:")
		fails(t, 1<<28-4, 1, api.ErrFar, "x:", op+"x")
		fails(t, 1<<28-8, 2, api.ErrFar, "x:", "syscall", op+"x")
		fails(t, math.MaxUint32-3, 1, api.ErrFar, "x:", op+"x")
	}
}

// fails holds an answer of Assemble that is to have a place against it.
func fails(t *testing.T, base uint32, at int, want error, lines ...string) {
	t.Helper()
	w, err := asm.Assemble(lines, base)
	var f *api.Fault
	if len(w) > 0 || !errors.As(err, &f) || f.At != at || f.Err != want {
		t.Errorf("%.200q: %x %v, not %v at %d", lines, w, err, want, at)
	}
}

// P32
func TestAssembleOfLinesThatAreNotWell(t *testing.T) {
	fails(t, 0, 2, api.ErrExist, "a:", "syscall", "a:")
	fails(t, 0, 1, api.ErrExist, "a:", "a:", "what")
	fails(t, 0, 0, api.ErrName, "what", "a:", "a:")
	for _, s := range []string{"", " ", "what", "what x", "jx", "label", " a"} {
		fails(t, 0, 1, api.ErrName, "syscall", s)
	}
	for _, s := range []string{
		"j", "jr", "jalr", "beq", "blez", "beq x", "beq $1, x", "beq $1 $2 x", "beq $1, $2,x", "beq $1, $2,  x", "beq $1, $2, x ", "beq $1, $2, x, x", "beq x, $2, 1", "j  x", "j X", "j xX", "j x y", "j thirteenbytes", "j x(", "j $x", "j -x", "j 1x",
		"jr x", "jalr $31, x", "jr $31, x", "addi $1, $2, x", "sll $1, $2, x", "lw $1, x($2)", "lw $1, x", "syscall x", "mfhi x",
		"what x:", "j x:", "syscall:x:", "a::", " :",
	} {
		fails(t, 0, 1, api.ErrText, "x:", s)
	}
	for _, s := range []string{"beq $32, $0, x", "beq $0, $32, x", "bgtz $32, x", "beq $0, $0, 32768", "j 67108864", "sll $0, $0, 32"} {
		fails(t, 0, 1, api.ErrBound, "x:", s)
	}
	fails(t, 0, 1, api.ErrText, "x:", "beq $32, y, x")
}

// P32: what begins as a word and is none is no instruction either.
func TestAssembleOfWordsThatAreNone(t *testing.T) {
	for _, s := range []string{
		".word", ".word ", ".word  1", ".word 1 ", ".word\t1", ".word1", ".words 1", ".wordy:", ".word:", ".word 1:", ".word x", ".word $1",
		".word 4294967296", ".word 9999999999", ".word 12345678901", ".word -1", ".word -0", ".word +1", ".word 01", ".word 00", ".word 0x1",
	} {
		fails(t, 0, 1, api.ErrText, "x:", s)
	}
	fails(t, 0, 0, api.ErrName, ".wor 1")
	fails(t, 0, 0, api.ErrName, " .word 1")
}

// P32: lines that are not well come first, then names, each in the order of the lines.
func TestAssembleTellsTheFirstLine(t *testing.T) {
	fails(t, 0, 1, api.ErrBound, "j x", "sll $0, $0, 32", "what")
	fails(t, 0, 3, api.ErrExist, "j x", "a:", "syscall", "a:")
	fails(t, 0, 1, api.ErrNone, "a:", "j x", "j y")
	fails(t, 0, 0, api.ErrNone, "beq $0, $0, b", "a:")
	fails(t, 1<<28-8, 0, api.ErrFar, "j x", "j y", "x:")
	fails(t, 1<<28-8, 0, api.ErrNone, "j y", "x:", "syscall", "j x")
}

// P32
func TestAssembleOfTooManyLinesOrAWrongBase(t *testing.T) {
	many := make([]string, api.MaxLines+1)
	for n := range many {
		many[n] = "what"
	}
	for _, c := range []struct {
		lines []string
		base  uint32
		want  error
	}{{many, 0, api.ErrFull}, {many, 2, api.ErrFull}, {nil, 1, api.ErrAlign}, {nil, 2, api.ErrAlign}, {many[:api.MaxLines], 3, api.ErrAlign}, {nil, math.MaxUint32, api.ErrAlign}} {
		if w, err := asm.Assemble(c.lines, c.base); len(w) > 0 || err != c.want {
			t.Errorf("%d lines at %d: %x %v, not %v", len(c.lines), c.base, w, err, c.want)
		}
	}
	for n := range many {
		many[n] = "syscall"
	}
	if w, err := asm.Assemble(many[:api.MaxLines], 4); len(w) != api.MaxLines || err != nil {
		t.Errorf("%d words, %v", len(w), err)
	}
}
