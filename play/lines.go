package play

import "changeling/api"

// programs is how many there are.
const programs = 4

// Lines of a program. Each call writes them anew: whoever has them may change them.
func Lines(k int) []string {
	switch max(k, 0) % programs {
	case 1:
		return table()
	case 2:
		return changer()
	case 3:
		return interrupted()
	}
	return summer()
}

// summer is a loop that sums.
func summer() []string {
	return []string{
		"addiu $1, $0, 0",
		"addiu $2, $0, 100",
		"loop:",
		"addu $1, $1, $2",
		"addiu $2, $2, -1",
		"bne $2, $0, loop",
		"xor $3, $1, $2",
		"lui $4, 1",
		"sw $1, 0($4)",
		"end:",
		"j end",
		"sll $0, $0, 0",
	}
}

// table in memory.
func table() []string {
	return []string{
		"ori $1, $0, 4096",
		"ori $2, $0, 20",
		"fill:",
		"mult $2, $2",
		"mflo $3",
		"sw $3, 0($1)",
		"addiu $1, $1, 4",
		"addiu $2, $2, -1",
		"bgtz $2, fill",
		"lbu $5, -1($1)",
		"ori $1, $0, 4096",
		"lw $6, 8($1)",
		"div $6, $5",
		"mfhi $7",
		"lui $4, 1",
		"sw $7, 8($4)",
		"end:",
		"j end",
		"addu $8, $8, $6",
	}
}

// changer changes itself.
func changer() []string {
	return []string{
		"ori $1, $0, 30",
		"lui $2, 8196",
		"ori $2, $2, 1",
		"again:",
		"addiu $4, $4, 1",
		"sw $2, 12($0)",
		"addiu $2, $2, 1",
		"addiu $1, $1, -1",
		"bgtz $1, again",
		"addu $5, $5, $4",
		"end:",
		"j end",
		"sll $0, $0, 0",
	}
}

// interrupted is a loop with interrupts, and a sum that becomes too great; its handler stands at Vector.
func interrupted() []string {
	lines := []string{
		"ori $1, $0, 50",
		"mtc0 $1, $11",
		"ori $1, $0, 1",
		"mtc0 $1, $12",
		"lui $9, 32767",
		"ori $9, $9, 65500",
		"on:",
		"addi $9, $9, 7",
		"lui $4, 1",
		"lw $5, 4($4)",
		"j on",
		"addu $6, $6, $5",
	}
	// One of the lines is a label: it makes no word.
	for words := len(lines) - 1; words < api.Vector/4; words++ {
		lines = append(lines, ".word 0")
	}
	return append(lines, handler()...)
}

// handler asks for the next interrupt, and tells where it came from.
func handler() []string {
	return []string{
		"mfc0 $20, $9",
		"addiu $20, $20, 60",
		"mtc0 $20, $11",
		"mfc0 $21, $13",
		"addu $22, $22, $21",
		"lui $9, 32767",
		"mfc0 $23, $14",
		"lui $24, 1",
		"sw $23, 0($24)",
		"eret",
	}
}
