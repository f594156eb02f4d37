package play_test

import (
	"math"
	"slices"
	"strings"
	"testing"

	"changeling/api"
	"changeling/asm"
	"changeling/play"
)

// chapter has the programs as P140 has them; the last one in two parts, for what stands between them.
func chapter(k int) (lines, atVector []string) {
	text := []string{
		"addiu $1, $0, 0|addiu $2, $0, 100|loop:|addu $1, $1, $2|addiu $2, $2, -1|bne $2, $0, loop|xor $3, $1, $2|lui $4, 1|sw $1, 0($4)|end:|j end|sll $0, $0, 0",
		"ori $1, $0, 4096|ori $2, $0, 20|fill:|mult $2, $2|mflo $3|sw $3, 0($1)|addiu $1, $1, 4|addiu $2, $2, -1|bgtz $2, fill|lbu $5, -1($1)|ori $1, $0, 4096|lw $6, 8($1)|div $6, $5|mfhi $7|lui $4, 1|sw $7, 8($4)|end:|j end|addu $8, $8, $6",
		"ori $1, $0, 30|lui $2, 8196|ori $2, $2, 1|again:|addiu $4, $4, 1|sw $2, 12($0)|addiu $2, $2, 1|addiu $1, $1, -1|bgtz $1, again|addu $5, $5, $4|end:|j end|sll $0, $0, 0",
		"ori $1, $0, 50|mtc0 $1, $11|ori $1, $0, 1|mtc0 $1, $12|lui $9, 32767|ori $9, $9, 65500|on:|addi $9, $9, 7|lui $4, 1|lw $5, 4($4)|j on|addu $6, $6, $5",
	}[k]
	lines = strings.Split(text, "|")
	if k == 3 {
		atVector = strings.Split("mfc0 $20, $9|addiu $20, $20, 60|mtc0 $20, $11|mfc0 $21, $13|addu $22, $22, $21|lui $9, 32767|mfc0 $23, $14|lui $24, 1|sw $23, 0($24)|eret", "|")
	}
	return lines, atVector
}

// whole program of the chapter: 11 words of the last one stand ahead of the 85 that are 0.
func whole(k int) []string {
	lines, atVector := chapter(k)
	if atVector != nil {
		lines = append(lines, slices.Repeat([]string{".word 0"}, 85)...)
	}
	return append(lines, atVector...)
}

// wordsOf a program of the chapter; each part is assembled at its own place.
func wordsOf(t *testing.T, k int) []uint32 {
	t.Helper()
	lines, atVector := chapter(k)
	words, err := asm.Assemble(lines, 0)
	if err != nil {
		t.Fatal(k, err)
	}
	if atVector == nil {
		return words
	}
	behind, err := asm.Assemble(atVector, api.Vector)
	if err != nil {
		t.Fatal(k, err)
	}
	return append(append(words, make([]uint32, api.Vector/4-len(words))...), behind...)
}

// P140
func TestLinesAreTheChapters(t *testing.T) {
	for k := range 4 {
		if got := play.Lines(k); !slices.Equal(got, whole(k)) {
			t.Errorf("program %d:\n got %q\nwant %q", k, got, whole(k))
		}
	}
}

// P140: modulo 4, and below 0 the first one.
func TestEveryNumberHasAProgram(t *testing.T) {
	for k, same := range map[int]int{
		4: 0, 5: 1, 6: 2, 7: 3, 8: 0, 1001: 1, 1 << 40: 0, math.MaxInt: 3, math.MaxInt - 1: 2,
		-1: 0, -2: 0, -3: 0, -4: 0, -5: 0, -7: 0, math.MinInt: 0, math.MinInt + 1: 0,
	} {
		if got := play.Lines(k); !slices.Equal(got, whole(same)) {
			t.Errorf("program %d is not %d: %q", k, same, got)
		}
	}
}

// P140: they can be assembled at 0, and the handler comes to stand at Vector.
func TestLinesCanBeAssembled(t *testing.T) {
	for k, many := range []int{10, 17, 11, 106} {
		got, err := asm.Assemble(play.Lines(k), 0)
		if err != nil || len(got) != many || !slices.Equal(got, wordsOf(t, k)) {
			t.Errorf("program %d: %v, %v", k, got, err)
		}
	}
}

// P4: lines that were told are nobody else's.
func TestLinesAreNewMemory(t *testing.T) {
	for k := range 4 {
		first, second := play.Lines(k), play.Lines(k)
		_ = append(first, "syscall")
		clear(first[:cap(first)])
		if !slices.Equal(second, whole(k)) || !slices.Equal(play.Lines(k), whole(k)) {
			t.Errorf("lines of program %d share memory", k)
		}
	}
}
