package cpu_test

import (
	"testing"

	"changeling/api"
	"changeling/bus"
	"changeling/cpu"
)

// branched is a state behind a branch.
func branched(s api.State, to uint32) api.State {
	s.PC, s.Next, s.Slot = s.Next, to, true
	return s
}

// P62: when each is taken; one that is not taken has a slot, too.
func TestBranchesOfComparisons(t *testing.T) {
	for _, c := range []struct {
		line string
		a, b uint32
		to   uint32
	}{
		{"beq $4, $5, 3", 7, 7, 80}, {"beq $4, $5, 3", 7, 8, 72}, {"beq $4, $4, -1", 7, 8, 64}, {"beq $0, $0, 0", 7, 8, 68}, {"beq $4, $5, 3", least, least, 80},
		{"bne $4, $5, 3", 7, 7, 72}, {"bne $4, $5, 3", 7, 8, 80}, {"bne $4, $5, -3", 0, least, 56}, {"bne $4, $4, 3", 7, 8, 72},
		{"blez $4, 3", 0, 9, 80}, {"blez $4, 3", 1, 9, 72}, {"blez $4, 3", minus1, 9, 80}, {"blez $4, 3", least, 9, 80}, {"blez $4, 3", most, 9, 72},
		{"bgtz $4, 3", 0, 9, 72}, {"bgtz $4, 3", 1, 9, 80}, {"bgtz $4, 3", minus1, 9, 72}, {"bgtz $4, 3", least, 9, 72}, {"bgtz $4, 3", most, 9, 80},
		{"beq $0, $0, 32767", 7, 8, 68 + 4*32767}, {"beq $0, $0, -32768", 7, 8, 1<<32 + 68 - 4*32768},
	} {
		s := given(c.a, c.b)
		b := with(t, c.line, 64)
		steps(t, c.line, s, b, -1, branched(s, c.to))
		untouched(t, c.line, b)
	}
}

// P62: a target hangs on PC, and what comes behind a branch that is not taken on Next.
func TestBranchesWhoseNextIsNotBehind(t *testing.T) {
	s := given(7, 7)
	s.Next = 400
	steps(t, "taken", s, with(t, "beq $4, $5, 3", 64), -1, branched(s, 80))
	steps(t, "not taken", s, with(t, "bne $4, $5, 3", 64), -1, branched(s, 404))
	want := branched(s, 40)
	want.R[31] = 72
	steps(t, "jal", s, with(t, "jal 10", 64), -1, want)
}

// P62
func TestJumps(t *testing.T) {
	for _, c := range []struct {
		line     string
		a        uint32
		to       uint32
		register int
	}{
		{"j 0", 9, 0, 0}, {"j 17", 9, 68, 0}, {"j 67108863", 9, 1<<28 - 4, 0},
		{"jal 0", 9, 0, 31}, {"jal 17", 9, 68, 31}, {"jal 67108863", 9, 1<<28 - 4, 31},
		{"jr $4", 4096, 4096, 0}, {"jr $4", 6, 6, 0}, {"jr $4", ones, ones, 0}, {"jr $0", 9, 0, 0},
		{"jalr $31, $4", 4096, 4096, 31}, {"jalr $7, $4", 3, 3, 7}, {"jalr $4, $4", 4096, 4096, 4}, {"jalr $0, $4", 4096, 4096, 0},
	} {
		s := given(c.a, 9)
		want := branched(s, c.to)
		if c.register != 0 {
			want.R[c.register] = 72
		}
		b := with(t, c.line, 64)
		steps(t, c.line, s, b, -1, want)
		untouched(t, c.line, b)
	}
}

// P62: in a slot every branch is RI, whether it would be taken or not, and leaves registers as they are.
func TestBranchesInSlots(t *testing.T) {
	for _, line := range []string{"beq $0, $0, 3", "beq $4, $5, 3", "bne $0, $0, 3", "blez $0, 1", "bgtz $0, 1", "j 5", "jal 5", "jr $4", "jalr $31, $4"} {
		s := given(128, 9)
		s.Slot, s.Next = true, 4096
		b := with(t, line, 64)
		steps(t, line, s, b, api.RI, caught(s, api.RI))
		untouched(t, line, b)
	}
}

// P60, P62: the slot is done, whether the branch is taken or not; then Slot is false again.
func TestSlotsAreDone(t *testing.T) {
	for line, to := range map[string]uint32{"beq $0, $0, 4": 20, "bne $0, $0, 4": 8, "j 5": 20} {
		s, b := cpu.New(0), bus.New([]uint32{wordOf(t, line), wordOf(t, "addiu $1, $1, 1"), wordOf(t, "addiu $2, $2, 1")})
		cpu.Run(s, b, 2)
		want := api.State{PC: to, Next: to + 4, Count: 2}
		want.R[1] = 1
		if *s != want {
			t.Errorf("%s: %+v", line, s)
		}
	}
}

// P62: a link is the place behind the slot, from which it goes on when it comes back.
func TestCallsComeBack(t *testing.T) {
	lines := []string{"jal 4", "addiu $1, $1, 1", "addiu $2, $2, 1", "break", "jr $31", "addiu $3, $3, 1"}
	var words []uint32
	for _, line := range lines {
		words = append(words, wordOf(t, line))
	}
	s, b := cpu.New(0), bus.New(words)
	if cpu.Run(s, b, 5); s.R[1] != 1 || s.R[2] != 1 || s.R[3] != 1 || s.R[31] != 8 || s.PC != 12 {
		t.Errorf("%+v", s)
	}
}

// P62: where a branch goes is not looked at ahead of its coming there: then EPC and Bad are that place.
func TestBranchesToNowhere(t *testing.T) {
	for _, to := range []uint32{6, 16384, ones} {
		s, b := cpu.New(0), bus.New([]uint32{wordOf(t, "jr $4"), wordOf(t, "addiu $1, $1, 1")})
		s.R[4] = to
		if n := cpu.Run(s, b, 2); n != 2 || s.R[1] != 1 || s.PC != to || s.Cause != 0 {
			t.Errorf("%d: %+v", n, s)
		}
		if e := cpu.Step(s, b); e != api.AdEL || s.EPC != to || s.Bad != to || s.Cause != 4*api.AdEL {
			t.Errorf("%d: %+v", e, s)
		}
	}
}
