package cpu_test

import (
	"strconv"
	"testing"

	"changeling/api"
)

// P62: what each number tells; of all others RI.
func TestMfc0(t *testing.T) {
	s := full()
	s.Status, s.Compare, s.Count = 2, 0xF0F1, 5<<32+77
	told := map[int]uint32{8: 0xE0E1, 9: 77, 11: 0xF0F1, 12: 2, 13: 0xC0C1, 14: 0xD0D1}
	for d := range 32 {
		line := "mfc0 $6, $" + strconv.Itoa(d)
		want := on(s)
		v, ok := told[d]
		if !ok {
			steps(t, line, s, with(t, line, 64), api.RI, caught(s, api.RI))
			continue
		}
		want.R[6] = v
		steps(t, line, s, with(t, line, 64), -1, want)
		line = "mfc0 $0, $" + strconv.Itoa(d)
		steps(t, line, s, with(t, line, 64), -1, on(s))
	}
}

// P62: to register 0 it is RI, too, where there is nothing to tell.
func TestMfc0OfNothingToRegister0(t *testing.T) {
	s := full()
	steps(t, "mfc0", s, with(t, "mfc0 $0, $10", 64), api.RI, caught(s, api.RI))
}

// P62: what each number takes; of all others RI.
func TestMtc0(t *testing.T) {
	for d := range 32 {
		for _, v := range []uint32{0, 1, 2, 3, 4, 0xFFFFFFFD, ones} {
			line := "mtc0 $6, $" + strconv.Itoa(d)
			s := full()
			s.R[6], s.Status = v, 2
			want := on(s)
			switch d {
			case 11:
				want.Compare = v
			case 12:
				want.Status = v % 4
			case 14:
				want.EPC = v
			default:
				steps(t, line, s, with(t, line, 64), api.RI, caught(s, api.RI))
				continue
			}
			steps(t, line, s, with(t, line, 64), -1, want)
		}
	}
}

// P62: each of them is done in a slot as elsewhere.
func TestMoveInASlot(t *testing.T) {
	s := full()
	s.Slot, s.Next = true, 4096
	want := on(s)
	want.R[6] = s.EPC
	steps(t, "mfc0", s, with(t, "mfc0 $6, $14", 64), -1, want)
	want = on(s)
	want.EPC = s.R[6]
	steps(t, "mtc0", s, with(t, "mtc0 $6, $14", 64), -1, want)
}

// P62: it comes back to EPC, wherever that is, at once.
func TestEret(t *testing.T) {
	for _, epc := range []uint32{0, 40, 6, 16384, ones} {
		for _, status := range []uint32{2, 3} {
			s := full()
			s.EPC, s.Status = epc, status
			want := s
			want.PC, want.Next, want.Status = epc, epc+4, status-2
			steps(t, "eret", s, with(t, "eret", 64), -1, want)
		}
	}
}

// P62: with nothing to come back from, and in a slot, it is RI.
func TestEretThatIsWrong(t *testing.T) {
	for status := range uint32(4) {
		for _, slot := range []bool{false, true} {
			if status >= 2 && !slot {
				continue
			}
			s := full()
			s.Status, s.Slot = status, slot
			steps(t, "eret", s, with(t, "eret", 64), api.RI, caught(s, api.RI))
		}
	}
}
