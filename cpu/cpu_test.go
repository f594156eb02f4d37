package cpu_test

import (
	"math"
	"slices"
	"testing"

	"changeling/api"
	"changeling/asm"
	"changeling/bus"
	"changeling/cpu"
)

const ones = math.MaxUint32

// wordOf a line of a program.
func wordOf(t *testing.T, line string) uint32 {
	t.Helper()
	w, err := asm.Assemble([]string{line}, 0)
	if err != nil || len(w) != 1 {
		t.Fatalf("%q: %v, %v", line, w, err)
	}
	return w[0]
}

// with is a bus that has a line's word at a place.
func with(t *testing.T, line string, at uint32) *bus.Bus {
	t.Helper()
	b := bus.New(nil)
	if err := b.Ram().Store(at, 4, wordOf(t, line)); err != nil {
		t.Fatal(err)
	}
	return b
}

// full is a state at 64 that has another number everywhere; interrupts and exceptions may come.
func full() api.State {
	s := api.State{Hi: 0xA0A1, Lo: 0xB0B1, PC: 64, Next: 68, Cause: 0xC0C1, EPC: 0xD0D1, Bad: 0xE0E1, Count: 7000}
	for r := range s.R {
		s.R[r] = uint32(r) * 0x01020304
	}
	return s
}

// steps once, and holds the exception and the whole state against those that are to be; Count is to be one more.
func steps(t *testing.T, name string, s api.State, b *bus.Bus, code int, want api.State) {
	t.Helper()
	want.Count = s.Count + 1
	if got := cpu.Step(&s, b); got != code {
		t.Errorf("%s: exception %d, not %d", name, got, code)
	}
	if s != want {
		t.Errorf("%s:\n got %+v\nwant %+v", name, s, want)
	}
}

// on is a state behind an instruction that is no branch, and has done nothing yet.
func on(s api.State) api.State {
	s.PC, s.Next, s.Slot = s.Next, s.Next+4, false
	return s
}

// caught is a state behind an exception, by the document's words.
func caught(s api.State, code uint32) api.State {
	switch {
	case s.Status&2 != 0:
		s.Cause = s.Cause&0xFFFFFF83 + 4*code
	case s.Slot:
		s.EPC, s.Cause = s.PC-4, 1<<31+4*code
	default:
		s.EPC, s.Cause = s.PC, 4*code
	}
	s.Status |= 2
	s.PC, s.Next, s.Slot = api.Vector, api.Vector+4, false
	return s
}

// untouched tells whether a bus is as it was made, but for a word at 64.
func untouched(t *testing.T, name string, b *bus.Bus) {
	t.Helper()
	w := b.Ram().Words()
	w[16] = 0
	if slices.Max(w) != 0 || b.Output() != "" || b.Lamp() != 0 || len(b.Trace()) != 0 {
		t.Errorf("%s: the bus has changed", name)
	}
}

// P60
func TestNewIsZeroButForItsPlace(t *testing.T) {
	for pc, next := range map[uint32]uint32{0: 4, 64: 68, 6: 10, 16384: 16388, ones: 3, ones - 3: 0} {
		if s := cpu.New(pc); s == nil || *s != (api.State{PC: pc, Next: next}) {
			t.Errorf("New(%d) = %+v", pc, s)
		}
	}
	a, b := cpu.New(0), cpu.New(0)
	a.R[1] = 5
	if b.R[1] != 0 || cpu.New(0).R[1] != 0 {
		t.Error("two states are one")
	}
}

// P60
func TestNothingIsNoStep(t *testing.T) {
	s, b := full(), with(t, "sw $1, 0($0)", 64)
	for i, got := range []int{cpu.Step(nil, b), cpu.Step(&s, nil), cpu.Step(nil, nil), cpu.Step(&s, new(bus.Bus))} {
		if got != -1 {
			t.Errorf("step %d: %d", i, got)
		}
	}
	for i, got := range []int{cpu.Run(nil, b, 3), cpu.Run(&s, nil, 3), cpu.Run(nil, nil, 3), cpu.Run(&s, new(bus.Bus), 3)} {
		if got != 0 {
			t.Errorf("run %d: %d", i, got)
		}
	}
	if s != full() {
		t.Errorf("the state has changed: %+v", s)
	}
	untouched(t, "no step", b)
}

// P60: PC becomes Next, whatever that is; Next comes round behind the highest place.
func TestPCBecomesNext(t *testing.T) {
	for _, next := range []uint32{68, 64, 0, 6, 20000, ones - 3, ones} {
		s := full()
		s.Next = next
		want := s
		want.PC, want.Next = next, next+4
		steps(t, "sll", s, with(t, "sll $0, $0, 0", 64), -1, want)
		s.Slot = true
		steps(t, "sll in a slot", s, with(t, "sll $0, $0, 0", 64), -1, want)
	}
}

// P60: what stands at PC is read as it is by then.
func TestInstructionsMayBeWritten(t *testing.T) {
	b := with(t, "sw $1, 68($0)", 64)
	s := full()
	s.R[1] = wordOf(t, "addiu $2, $0, 9")
	if n := cpu.Run(&s, b, 2); n != 2 || s.R[2] != 9 || s.PC != 72 {
		t.Errorf("%d: %+v", n, s)
	}
}

// P60: no word is there: AdEL, and Bad is PC; devices are no places of instructions.
func TestPlacesOfNoInstruction(t *testing.T) {
	for _, pc := range []uint32{1, 2, 3, 66, 16382, 16384, 16385, api.Console, api.Clock, api.Lamp, ones - 3, ones} {
		for _, slot := range []bool{false, true} {
			for status := range uint32(4) {
				s := full()
				s.PC, s.Slot, s.Status = pc, slot, status
				want := caught(s, api.AdEL)
				want.Bad = pc
				b := bus.New(nil)
				steps(t, "a place of none", s, b, api.AdEL, want)
				untouched(t, "a place of none", b)
			}
		}
	}
	s := full()
	s.PC = api.RamSize - 4
	steps(t, "the last place", s, with(t, "sll $0, $0, 0", s.PC), -1, on(s))
}

// P60: when an interrupt comes, and when not.
func TestInterruptsComeWhenTheyMay(t *testing.T) {
	for _, c := range []struct {
		compare, status uint32
		count           int
		comes           bool
	}{
		{50, 1, 49, false}, {50, 1, 50, true}, {50, 1, 51, true}, {1, 1, 0, false}, {1, 1, 1, true},
		{0, 1, 0, false}, {0, 1, 50, false}, {50, 0, 50, false}, {50, 2, 50, false}, {50, 3, 50, false},
		{1 << 31, 1, 1<<31 - 1, false}, {1 << 31, 1, 1 << 31, true}, {ones, 1, ones - 1, false}, {ones, 1, ones, true},
		{50, 1, 1 << 32, true}, {50, 1, 1<<40 + 3, true}, {ones, 1, 1 << 60, true},
	} {
		for _, slot := range []bool{false, true} {
			s := full()
			s.Compare, s.Status, s.Count, s.Slot = c.compare, c.status, c.count, slot
			b := with(t, "sw $1, 0($0)", 64)
			if c.comes {
				steps(t, "an interrupt", s, b, api.Int, caught(s, api.Int))
				untouched(t, "an interrupt", b)
				continue
			}
			steps(t, "no interrupt", s, b, -1, on(s))
		}
	}
}

// P60: whether one comes among the next steps, as steps tell.
func TestInterruptsAreToldAhead(t *testing.T) {
	for many := 1; many < 26; many++ {
		for _, compare := range []uint32{0, 1, 69, 70, 71, 72, 93, 94, 95, 96, ones} {
			for status := range uint32(4) {
				s := api.State{PC: 64, Next: 68, Compare: compare, Status: status, Count: 70}
				told, comes := cpu.Interrupts(&s, many), false
				for b := bus.New(nil); s.Count < 70+many && !comes; {
					comes = cpu.Step(&s, b) == api.Int
				}
				if told != comes {
					t.Errorf("compare %d, status %d, of %d: %v", compare, status, many, told)
				}
			}
		}
	}
}

// P60: an interrupt is ahead of whatever would go wrong at PC, and Bad stays.
func TestInterruptsComeFirst(t *testing.T) {
	for _, pc := range []uint32{64, 66, 16384} {
		s := full()
		s.Compare, s.Status, s.PC = 3, 1, pc
		steps(t, "an interrupt", s, with(t, "syscall", 64), api.Int, caught(s, api.Int))
	}
}

// P60, P62: behind the handler, what was interrupted is done.
func TestInterruptsComeBack(t *testing.T) {
	b := with(t, "addiu $1, $1, 1", 64)
	for n, line := range []string{"mfc0 $2, $14", "mtc0 $0, $11", "eret"} {
		if err := b.Ram().Store(api.Vector+4*uint32(n), 4, wordOf(t, line)); err != nil {
			t.Fatal(err)
		}
	}
	s := cpu.New(64)
	s.Status, s.Compare, s.Count = 1, 5, 5
	if cpu.Run(s, b, 5); s.R[1] != 1 || s.R[2] != 64 || s.PC != 68 || s.Next != 72 || s.Status != 1 || s.Compare != 0 || s.Count != 10 {
		t.Errorf("%+v", s)
	}
}

// P61: every way into it: what was ahead of it, in a slot or not, while one is handled or not. Nothing else changes.
func TestExceptions(t *testing.T) {
	for _, c := range []struct {
		line string
		code uint32
		bad  uint32
	}{
		{"syscall", api.Sys, 0}, {"break", api.Bp, 0}, {".word 1", api.RI, 0}, {".word 4294967295", api.RI, 0}, {"mfc0 $1, $7", api.RI, 0}, {"mtc0 $1, $13", api.RI, 0},
		{"add $2, $30, $31", api.Ov, 0}, {"addi $2, $30, 32767", api.Ov, 0}, {"sub $2, $31, $29", api.Ov, 0},
		{"lw $2, 5($0)", api.AdEL, 5}, {"sw $2, 6($0)", api.AdES, 6}, {"sb $2, -1($0)", api.AdES, ones},
	} {
		for _, cause := range []uint32{0, 3, 1 << 31, ones, 0x7C} {
			for status := range uint32(4) {
				for _, slot := range []bool{false, true} {
					s := full()
					s.R[29], s.R[30], s.R[31] = 1<<31, 1<<31-1, 1
					s.Cause, s.Status, s.Slot = cause, status, slot
					if slot {
						s.Next = 4096
					}
					want := caught(s, c.code)
					if c.bad != 0 {
						want.Bad = c.bad
					}
					b := with(t, c.line, 64)
					steps(t, c.line, s, b, int(c.code), want)
					untouched(t, c.line, b)
				}
			}
		}
	}
}

// P61: the document's example, and the place ahead of the first one.
func TestExceptionsInASlot(t *testing.T) {
	b := with(t, "j 0", 64)
	if err := b.Ram().Store(68, 4, wordOf(t, "lw $1, -4($0)")); err != nil {
		t.Fatal(err)
	}
	s := cpu.New(64)
	if first, second := cpu.Step(s, b), cpu.Step(s, b); first != -1 || second != api.AdEL || s.EPC != 64 || s.Cause != 1<<31|4*api.AdEL || s.Bad != ones-3 || s.Slot {
		t.Errorf("%d, %d: %+v", first, second, s)
	}
	s = &api.State{Next: 4, Slot: true}
	if e := cpu.Step(s, with(t, "syscall", 0)); e != api.Sys || s.EPC != ones-3 || s.Cause != 1<<31|4*api.Sys {
		t.Errorf("%d: %+v", e, s)
	}
}

// P63
func TestRunMakesSoManySteps(t *testing.T) {
	for n, want := range map[int]int{math.MinInt: 0, -1: 0, 0: 0, 1: 1, 2: 2, 777: 777, api.MaxSteps - 1: api.MaxSteps - 1, api.MaxSteps: api.MaxSteps, api.MaxSteps + 1: api.MaxSteps, math.MaxInt: api.MaxSteps} {
		s, b := cpu.New(0), bus.New([]uint32{wordOf(t, "j 0"), wordOf(t, "addiu $1, $1, 1")})
		if got := cpu.Run(s, b, n); got != want || s.Count != want || s.R[1] != uint32(want/2) {
			t.Errorf("Run of %d: %d, Count %d, $1 %d", n, got, s.Count, s.R[1])
		}
	}
}

// P63: exceptions are steps as others are.
func TestRunGoesThroughExceptions(t *testing.T) {
	s, b := cpu.New(1), bus.New(nil)
	if n := cpu.Run(s, b, 9000); n != 9000 || s.Count != 9000 || s.Cause != 4*api.AdEL || s.Status != 2 {
		t.Errorf("%d: %+v", n, s)
	}
}
