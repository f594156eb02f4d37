package script_test

import (
	"slices"
	"strings"
	"testing"

	"changeling/api"
	"changeling/plain"
	"changeling/script"
)

// atWork is lines behind which there is a machine that stands somewhere.
func atWork() []string { return []string{"set 0 1 1 0", "asm break", "play 1", "go 40"} }

// P160: at most MaxScript lines, whatever they are.
func TestTooManyLines(t *testing.T) {
	for _, many := range []int{api.MaxScript + 1, api.MaxScript + 2, 5000} {
		for _, line := range []string{"", "clear", "pc"} {
			got, err := script.Run(slices.Repeat([]string{line}, many))
			if code, at := plain.Code(err); len(got) != 0 || code != 2 || at != -1 {
				t.Errorf("%d lines %q: %q, error %d at %d", many, line, got, code, at)
			}
		}
	}
	for _, many := range []int{1, api.MaxScript - 1, api.MaxScript} {
		for n, got := range run(t, slices.Repeat([]string{"clear"}, many)...) {
			if got != "ok" {
				t.Fatalf("line %d of %d: %q", n, many, got)
			}
		}
	}
}

// noCommands: lines that are none, of each command and of no command.
func noCommands() []string {
	l := []string{
		"", " ", "  ", "what", "what 1", "PC", "pcs", "p", "asm", "word", "asmx", "asm\tsyscall", "word\tsyscall", " asm syscall", "Asm syscall", "\x00", "\xff\xfe", "größe", "pc\n", "pc\t", "\npc", "nothing", "ok", "1",
		"reg 1 2", "reg1", "reg  1", "set", "set ", "set 1", "set 1 2 3", "set 1 2 3 4 5", "set 1 2 3 ", "set 1 2  3 4", "set  1 2 3 4", "set 1 2 3 4 ", "set 0 1 1 x", "set x 1 1 0", "set 0 01 1 0", "set 0 1 -1 0", "set 0 1 1 00000000",
	}
	for _, name := range []string{"clear", "pc", "cause", "out", "lamp", "trace"} {
		for _, behind := range []string{" ", "  ", " 0", " 1", " x", " 1 2"} {
			l = append(l, name+behind)
		}
		l = append(l, " "+name, strings.ToUpper(name))
	}
	for _, name := range []string{"load", "play", "go", "reg", "mem", "text"} {
		l = append(l, name, " "+name+" 0", strings.ToUpper(name)+" 0")
		for _, n := range []string{
			"", " ", "x", "-1", "-0", "+1", "00", "01", "007", "10000000", "12345678", "0000000", "00000001", "99999999999999999999", "18446744073709551616", "1_0", "0x1", "1.0", "1e1", "1x", "x1", "٣", "１", "1\n", "\t1", "1\x00",
		} {
			l = append(l, name+" "+n)
		}
		for _, behind := range []string{"0 ", " 0", "0 0", "0  0", "1 2 3 4"} {
			l = append(l, name+" "+behind)
		}
	}
	return l
}

// P161: such a line is answered with text, also where there is no machine, and changes nothing.
func TestLinesThatAreNone(t *testing.T) {
	looks := []string{"pc", "go 0", "reg 1", "trace", "load 0", "mem 0"}
	want := run(t, append(atWork(), looks...)...)[len(atWork()):]
	for _, line := range noCommands() {
		holds(t, [2]string{line, "changeling: text"}, [2]string{"pc", "changeling: none"}, [2]string{"load 0", "0"})
		got := run(t, slices.Concat(atWork(), []string{line}, looks)...)[len(atWork()):]
		if got[0] != "changeling: text" || !slices.Equal(got[1:], want) {
			t.Errorf("%q: %q, not text and %q", line, got, want)
		}
	}
	long := strings.Repeat(" 1", 100000)
	for _, name := range []string{"", "pc", "go", "set"} {
		holds(t, [2]string{name + long, "changeling: text"}, [2]string{name + " " + strings.Repeat("9", 100000), "changeling: text"})
	}
}

// P160: the longest number has seven digits.
func TestTheLongestNumber(t *testing.T) {
	holds(t, [2]string{"load 9999999", "0"}, [2]string{"pc", "9999999"}, [2]string{"mem 9999999", "changeling: align"}, [2]string{"mem 9999996", "changeling: far"},
		[2]string{"reg 9999999", "changeling: bound"}, [2]string{"text 9999999", "changeling: kind"}, [2]string{"play 9999999", "106"}, [2]string{"set 9999999 1 1 0", "changeling: bound"})
}

// P161: there is none until load or play has made one: not by what was refused, and not by what needs none.
func TestThereIsNoMachineYet(t *testing.T) {
	needs := []string{"go 0", "go 9999999", "reg 0", "reg 31", "reg 32", "mem 0", "mem 2", "mem 16384", "pc", "cause", "out", "lamp", "trace"}
	lines := slices.Concat(needs, []string{"asm what", "set 0 1 1 0", "word syscall", "text 12", "load 0", "load", "play", "clear"}, needs)
	for n, got := range run(t, lines...) {
		if slices.Contains(needs, lines[n]) && got != "changeling: none" {
			t.Errorf("line %d, %q: %q", n, lines[n], got)
		}
	}
	for _, begin := range []string{"load 0", "play 0"} {
		for n, got := range run(t, append([]string{begin}, "go 0", "reg 0", "mem 0", "pc", "cause", "out", "lamp", "trace")...) {
			if got == "changeling: none" {
				t.Errorf("%s: line %d is answered %q", begin, n, got)
			}
		}
	}
}

// P161: bound of registers beyond the last one; ram's errors of memory, where no device is.
func TestNoRegistersAndNoMemory(t *testing.T) {
	for _, n := range []string{"32", "33", "34", "63", "9999999"} {
		holds(t, [2]string{"load 0", "0"}, [2]string{"reg " + n, "changeling: bound"}, [2]string{"reg 31", "0"})
	}
	for n, want := range map[string]string{
		"1": "align", "2": "align", "3": "align", "16383": "align", "16385": "align", "65537": "align", "16384": "far", "16388": "far", "65536": "far", "65540": "far", "65544": "far", "65548": "far", "9999996": "far",
	} {
		holds(t, [2]string{"load 0", "0"}, [2]string{"mem " + n, "changeling: " + want}, [2]string{"mem 16380", "0"}, [2]string{"trace", "nothing"})
	}
}

// P161: the assembler's errors, each with a place, are told without it; the machine and the program stay.
func TestProgramsThatAreWrong(t *testing.T) {
	for program, want := range map[string]string{
		"what": "name", "sll $0, $0, 0|what 1": "name", "add $1, $2": "text", ".word 4294967296": "text", "toolongalabel:": "text", "sll $0, $0, 32": "bound", "addi $1, $1, 32768": "bound",
		"a:|a:": "exist", "sll $0, $0, 0|j nowhere": "none", "beq $0, $0, x": "none",
	} {
		lines := append(atWork(), "clear")
		lines = append(lines, source(strings.Split(program, "|"))...)
		behind := len(lines)
		got := run(t, append(lines, "load 8", "pc", "go 0", "go 1", "load 0", "clear", "load 0")...)[behind:]
		before := run(t, append(atWork(), "pc")...)
		all := []string{"changeling: " + want, before[len(before)-1], "40", "41", "changeling: " + want, "ok", "0"}
		if !slices.Equal(got, all) {
			t.Errorf("%s: %q, not %q", program, got, all)
		}
	}
}

// P3 P4: lines are only read, with what lies behind their length; answers are new memory.
func TestLinesAreOnlyRead(t *testing.T) {
	lines := append(atWork(), "pc", "what", "trace", "load 0", "behind", "and more")
	had := slices.Clone(lines)
	first := run(t, lines[:len(lines)-2]...)
	if !slices.Equal(lines, had) {
		t.Errorf("lines are %q now", lines)
	}
	told := slices.Clone(first)
	clear(first[:cap(first)])
	if again := run(t, lines[:len(lines)-2]...); !slices.Equal(again, told) {
		t.Errorf("%q, then %q", told, again)
	}
}
