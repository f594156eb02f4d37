package cpu_test

import (
	"strings"
	"testing"

	"changeling/api"
	"changeling/bus"
	"changeling/cpu"
)

const (
	least  = uint32(1 << 31)   // the least signed word
	most   = uint32(1<<31 - 1) // the greatest one
	minus1 = uint32(1<<32 - 1)
	minus3 = uint32(1<<32 - 3)
	minus7 = uint32(1<<32 - 7)
)

// resultCase of an instruction of $4 and $5 whose result goes to $6.
type resultCase struct {
	line       string
	a, b, want uint32
}

func resultCases() []resultCase {
	return []resultCase{
		{"add $6, $4, $5", 2, 3, 5}, {"add $6, $4, $5", most, 0, most}, {"add $6, $4, $5", most, minus1, most - 1}, {"add $6, $4, $5", minus1, minus1, minus1 - 1}, {"add $6, $4, $5", least, most, minus1},
		{"addu $6, $4, $5", most, 1, least}, {"addu $6, $4, $5", minus1, 2, 1}, {"addu $6, $4, $5", least, least, 0},
		{"sub $6, $4, $5", 3, 5, minus1 - 1}, {"sub $6, $4, $5", least, 0, least}, {"sub $6, $4, $5", minus1, least, most}, {"sub $6, $4, $5", least, least, 0},
		{"subu $6, $4, $5", 0, least, least}, {"subu $6, $4, $5", least, 1, most}, {"subu $6, $4, $5", 0, 1, minus1},
		{"and $6, $4, $5", 0xFF00FF00, 0x0FF00FF0, 0x0F000F00}, {"or $6, $4, $5", 0xFF00FF00, 0x0FF00FF0, 0xFFF0FFF0},
		{"xor $6, $4, $5", 0xFF00FF00, 0x0FF00FF0, 0xF0F0F0F0}, {"nor $6, $4, $5", 0xFF00FF00, 0x0FF00FF0, 0x000F000F},
		{"slt $6, $4, $5", 1, 2, 1}, {"slt $6, $4, $5", 2, 2, 0}, {"slt $6, $4, $5", 2, 1, 0}, {"slt $6, $4, $5", least, most, 1}, {"slt $6, $4, $5", minus1, 0, 1}, {"slt $6, $4, $5", 0, minus1, 0},
		{"sltu $6, $4, $5", 1, 2, 1}, {"sltu $6, $4, $5", 2, 2, 0}, {"sltu $6, $4, $5", least, most, 0}, {"sltu $6, $4, $5", 0, minus1, 1},
		{"sll $6, $5, 0", 9, 0x80000001, 0x80000001}, {"sll $6, $5, 1", 9, 0xC0000001, 0x80000002}, {"sll $6, $5, 31", 9, 3, least},
		{"srl $6, $5, 1", 9, 0x80000001, 0x40000000}, {"srl $6, $5, 31", 9, least, 1}, {"sra $6, $5, 1", 9, 0x80000001, 0xC0000000}, {"sra $6, $5, 31", 9, least, minus1}, {"sra $6, $5, 31", 9, most, 0},
		{"sllv $6, $5, $4", 4, 0x12345678, 0x23456780}, {"sllv $6, $5, $4", 33, 3, 6}, {"sllv $6, $5, $4", minus1, 3, least}, {"sllv $6, $5, $4", 32, 7, 7},
		{"srlv $6, $5, $4", 4, 0x82345678, 0x08234567}, {"srlv $6, $5, $4", 36, 0x82345678, 0x08234567}, {"srav $6, $5, $4", 4, 0x82345678, 0xF8234567}, {"srav $6, $5, $4", 63, least, minus1},
		{"addi $6, $4, 7", most - 7, 9, most}, {"addi $6, $4, -1", 0, 9, minus1}, {"addi $6, $4, -32768", 32767, 9, minus1}, {"addi $6, $4, 32767", minus1, 9, 32766},
		{"addiu $6, $4, 1", most, 9, least}, {"addiu $6, $4, -1", least, 9, most}, {"addiu $6, $4, -32768", 0, 9, 0xFFFF8000}, {"addiu $6, $4, 32767", minus1, 9, 32766},
		{"slti $6, $4, -1", minus3, 9, 1}, {"slti $6, $4, -1", minus1, 9, 0}, {"slti $6, $4, 5", least, 9, 1}, {"slti $6, $4, -5", 3, 9, 0}, {"slti $6, $4, -32768", 0xFFFF7FFF, 9, 1},
		{"sltiu $6, $4, -1", minus3, 9, 1}, {"sltiu $6, $4, -1", 5, 9, 1}, {"sltiu $6, $4, -1", minus1, 9, 0}, {"sltiu $6, $4, 5", least, 9, 0}, {"sltiu $6, $4, 5", 4, 9, 1}, {"sltiu $6, $4, -32768", 0xFFFF7FFF, 9, 1}, {"sltiu $6, $4, -32768", 32768, 9, 1},
		{"andi $6, $4, 65535", 0x1234F678, 9, 0xF678}, {"andi $6, $4, 32768", minus1, 9, 32768}, {"ori $6, $4, 65535", 0x12340000, 9, 0x1234FFFF}, {"xori $6, $4, 65535", minus1, 9, 0xFFFF0000}, {"xori $6, $4, 32768", 0, 9, 32768},
		{"lui $6, 65535", 9, 9, 0xFFFF0000}, {"lui $6, 32768", 9, 9, least}, {"lui $6, 1", 9, 9, 65536}, {"lui $6, 0", 9, 9, 0},
	}
}

// given is a full state with $4 and $5 as they are told.
func given(a, b uint32) api.State {
	s := full()
	s.R[4], s.R[5] = a, b
	return s
}

// P62
func TestResultsOfSums(t *testing.T) {
	for _, c := range resultCases() {
		for _, slot := range []bool{false, true} {
			s := given(c.a, c.b)
			s.Slot = slot
			want := on(s)
			want.R[6] = c.want
			b := with(t, c.line, 64)
			steps(t, c.line, s, b, -1, want)
			untouched(t, c.line, b)
		}
	}
}

// P62, P64: the same sums with another register for the result: 0 stays 0, and one that is read, too, may be written.
func TestRegistersOfResults(t *testing.T) {
	for _, c := range resultCases() {
		for register, name := range map[int]string{0: "$0", 4: "$4", 5: "$5", 31: "$31"} {
			line := strings.Replace(c.line, "$6", name, 1)
			s := given(c.a, c.b)
			want := on(s)
			if register != 0 {
				want.R[register] = c.want
			}
			steps(t, line, s, with(t, line, 64), -1, want)
		}
	}
}

// P62: of one register twice, and of register 0.
func TestSumsOfOneRegister(t *testing.T) {
	for _, c := range []resultCase{
		{"addu $6, $4, $4", 5, 9, 10}, {"sub $6, $4, $4", least, 9, 0}, {"subu $4, $4, $4", 5, 9, 0}, {"xor $6, $0, $4", 5, 9, 5}, {"nor $6, $0, $0", 5, 9, minus1}, {"sllv $6, $4, $4", 3, 9, 24}, {"sltu $6, $0, $4", 5, 9, 1}, {"addiu $6, $0, -7", 5, 9, minus7},
	} {
		s := given(c.a, c.b)
		want := on(s)
		if strings.Contains(c.line, " $6,") {
			want.R[6] = c.want
		} else {
			want.R[4] = c.want
		}
		steps(t, c.line, s, with(t, c.line, 64), -1, want)
	}
}

// P62: what is no signed word, just beyond the edges; also where the result would go to register 0.
func TestSumsThatAreTooGreat(t *testing.T) {
	for _, c := range []resultCase{
		{"add $6, $4, $5", most, 1, 0}, {"add $6, $4, $5", least, minus1, 0}, {"add $6, $4, $5", most, most, 0}, {"add $6, $4, $5", least, least, 0},
		{"addi $6, $4, 1", most, 9, 0}, {"addi $6, $4, -1", least, 9, 0}, {"addi $6, $4, 8", most - 7, 9, 0}, {"addi $6, $4, -32768", least + 32767, 9, 0},
		{"sub $6, $4, $5", least, 1, 0}, {"sub $6, $4, $5", 0, least, 0}, {"sub $6, $4, $5", most, minus1, 0}, {"sub $6, $4, $5", minus1 - 1, most, 0},
	} {
		for _, name := range []string{"$6", "$4", "$0"} {
			line := strings.Replace(c.line, "$6", name, 1)
			s := given(c.a, c.b)
			steps(t, line, s, with(t, line, 64), api.Ov, caught(s, api.Ov))
		}
	}
}

// P62
func TestProductsAndQuotients(t *testing.T) {
	const hi, lo = 0xA0A1, 0xB0B1 // what they are ahead of it
	for _, c := range []struct {
		line   string
		a, b   uint32
		hi, lo uint32
	}{
		{"mult $4, $5", 6, 7, 0, 42}, {"mult $4, $5", minus3, 5, minus1, ^uint32(14)}, {"mult $4, $5", least, least, 1 << 30, 0}, {"mult $4, $5", minus1, minus1, 0, 1}, {"mult $4, $5", least, minus1, 0, least},
		{"multu $4, $5", 6, 7, 0, 42}, {"multu $4, $5", minus1, minus1, minus1 - 1, 1}, {"multu $4, $5", minus3, 65535, 65534, ^uint32(3*65535) + 1},
		{"div $4, $5", 17, 5, 2, 3}, {"div $4, $5", minus7, 2, minus1, minus3}, {"div $4, $5", 7, minus1 - 1, 1, minus3}, {"div $4, $5", minus7, minus3, minus1, 2}, {"div $4, $5", least, minus1, 0, least}, {"div $4, $5", 0, 9, 0, 0},
		{"div $4, $5", 17, 0, hi, lo}, {"div $4, $5", least, 0, hi, lo}, {"div $4, $5", 0, 0, hi, lo},
		{"divu $4, $5", 17, 5, 2, 3}, {"divu $4, $5", minus7, 2, 1, 1<<31 - 4}, {"divu $4, $5", least, minus1, least, 0}, {"divu $4, $5", 5, minus3, 5, 0},
		{"divu $4, $5", 17, 0, hi, lo}, {"divu $4, $5", minus1, 0, hi, lo},
		{"mthi $4", 77, 9, 77, lo}, {"mtlo $4", 77, 9, hi, 77}, {"mthi $0", 77, 9, 0, lo}, {"mtlo $0", 77, 9, hi, 0},
	} {
		s := given(c.a, c.b)
		want := on(s)
		want.Hi, want.Lo = c.hi, c.lo
		steps(t, c.line, s, with(t, c.line, 64), -1, want)
	}
}

// P62
func TestHiAndLoAreTold(t *testing.T) {
	s := full()
	want := on(s)
	want.R[9] = s.Hi
	steps(t, "mfhi", s, with(t, "mfhi $9", 64), -1, want)
	want.R[9] = s.Lo
	steps(t, "mflo", s, with(t, "mflo $9", 64), -1, want)
	steps(t, "mfhi of 0", s, with(t, "mfhi $0", 64), -1, on(s))
	steps(t, "mflo of 0", s, with(t, "mflo $0", 64), -1, on(s))
}

// P60, P62: the document's first example, run.
func TestExampleWord(t *testing.T) {
	s := cpu.New(0)
	if e := cpu.Step(s, bus.New([]uint32{604045319})); e != -1 || s.R[1] != 7 || s.PC != 4 || s.Next != 8 || s.Count != 1 {
		t.Errorf("%d: %+v", e, s)
	}
}
