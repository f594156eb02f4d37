package script_test

import (
	"fmt"
	"slices"
	"strconv"
	"strings"
	"testing"

	"changeling/api"
	"changeling/asm"
	"changeling/morph"
	"changeling/play"
	"changeling/script"
)

func run(t *testing.T, lines ...string) []string {
	t.Helper()
	got, err := script.Run(lines)
	if err != nil || len(got) != len(lines) {
		t.Fatalf("%q: %q, %v", lines, got, err)
	}
	return got
}

// holds lines against their answers: each pair is of both.
func holds(t *testing.T, pairs ...[2]string) {
	t.Helper()
	var lines []string
	for _, p := range pairs {
		lines = append(lines, p[0])
	}
	for n, got := range run(t, lines...) {
		if got != pairs[n][1] {
			t.Errorf("line %d, %q: %q, not %q", n, lines[n], got, pairs[n][1])
		}
	}
}

// source is the lines by which a program comes into a script.
func source(program []string) []string {
	var lines []string
	for _, line := range program {
		lines = append(lines, "asm "+line)
	}
	return lines
}

// last answer of lines.
func last(t *testing.T, lines ...string) string {
	t.Helper()
	got := run(t, lines...)
	return got[len(got)-1]
}

// P160
func TestAScriptMayHaveNoLines(t *testing.T) {
	for _, lines := range [][]string{nil, {}} {
		if got, err := script.Run(lines); err != nil || len(got) != 0 {
			t.Errorf("%q, %v", got, err)
		}
	}
}

// P160: at first there are no lines of a program, and no machine.
func TestBeginning(t *testing.T) {
	holds(t, [2]string{"pc", "changeling: none"}, [2]string{"load 0", "0"}, [2]string{"pc", "0"}, [2]string{"mem 0", "0"}, [2]string{"go 0", "0"})
}

// P160: each call begins anew.
func TestAScriptHasNothingOfTheOneAhead(t *testing.T) {
	run(t, "asm syscall", "set 0 1 1 0", "load 64")
	holds(t, [2]string{"pc", "changeling: none"}, [2]string{"load 0", "0"}, [2]string{"mem 0", "0"})
}

// P160: lines of a program are kept in their order, until they are cleared; load leaves them as they are.
func TestProgramsGrowLineByLine(t *testing.T) {
	holds(t,
		[2]string{"asm addiu $1, $0, 7", "ok"},
		[2]string{"asm again:", "ok"},
		[2]string{"load 0", "1"},
		[2]string{"mem 0", "604045319"},
		[2]string{"asm .word 4294967295", "ok"},
		[2]string{"asm j again", "ok"},
		[2]string{"mem 4", "0"},
		[2]string{"load 0", "3"},
		[2]string{"load 0", "3"},
		[2]string{"mem 4", "4294967295"},
		[2]string{"mem 8", strconv.Itoa(2<<26 | 1)},
		[2]string{"clear", "ok"},
		[2]string{"mem 4", "4294967295"},
		[2]string{"load 0", "0"},
		[2]string{"mem 4", "0"},
		[2]string{"asm syscall", "ok"},
		[2]string{"load 0", "1"},
		[2]string{"mem 0", "12"},
		[2]string{"clear", "ok"},
		[2]string{"clear", "ok"},
		[2]string{"load 0", "0"},
	)
}

// P160: what stands behind asm is not looked at ahead of load: it may be anything, also nothing.
func TestAnyTextMayBecomeALine(t *testing.T) {
	for text, answer := range map[string]string{
		"what": "changeling: name", "": "changeling: name", " sll $0, $0, 0": "changeling: name", "add $1": "changeling: text", "add $1, $2, $32": "changeling: bound",
		".word": "changeling: text", ":": "changeling: text", "j to": "changeling: none", "load 0": "changeling: name", "\x00\xff": "changeling: name",
		".word 4294967295": "1", "end:": "0", "syscall": "1", "sll $0, $0, 0 ": "changeling: text", "lw $2, -4($4)": "1",
	} {
		holds(t, [2]string{"asm " + text, "ok"}, [2]string{"load 0", answer})
	}
}

// P160: a machine begins where load says, whatever is there; its program stands at 0.
func TestMachinesBeginWhereLoadSays(t *testing.T) {
	for _, pc := range []string{"0", "4", "8", "2", "384", "16384", "65536", "9999999"} {
		holds(t, [2]string{"asm syscall", "ok"}, [2]string{"asm break", "ok"}, [2]string{"load " + pc, "2"}, [2]string{"pc", pc},
			[2]string{"mem 0", "12"}, [2]string{"mem 4", "13"}, [2]string{"go 0", "0"}, [2]string{"pc", pc})
	}
	holds(t, [2]string{"asm syscall", "ok"}, [2]string{"asm break", "ok"}, [2]string{"set 0 1 1 0", "ok"},
		[2]string{"load 0", "2"}, [2]string{"go 1", "1"}, [2]string{"cause", strconv.Itoa(api.Sys)},
		[2]string{"load 4", "2"}, [2]string{"cause", "0"}, [2]string{"go 1", "1"}, [2]string{"cause", strconv.Itoa(api.Bp)},
		[2]string{"load 2", "2"}, [2]string{"go 1", "1"}, [2]string{"cause", strconv.Itoa(api.AdEL)}, [2]string{"pc", "384"})
}

// P160: each load is a machine anew, with nothing of the one ahead.
func TestLoadIsAMachineAnew(t *testing.T) {
	whole := [][2]string{{"load 0", "4"}, {"out", "nothing"}, {"trace", "nothing"}, {"lamp", "0"}, {"reg 1", "0"}, {"pc", "0"},
		{"go 4", "4"}, {"out", "48"}, {"trace", "2:w:65536:72 3:w:65544:72"}, {"lamp", "72"}, {"reg 1", "72"}, {"pc", "16"}}
	pairs := [][2]string{{"set 0 1 1 0", "ok"}, {"asm lui $9, 1", "ok"}, {"asm ori $1, $0, 72", "ok"}, {"asm sw $1, 0($9)", "ok"}, {"asm sw $1, 8($9)", "ok"}}
	for range 3 {
		pairs = append(pairs, whole...)
	}
	holds(t, pairs...)
}

// P160: a play's program is laid at 0, as if it were the script's, which stays; its machine begins at 0.
func TestPlaysAreLoaded(t *testing.T) {
	for n, many := range map[string]string{"0": "10", "1": "17", "2": "11", "3": "106", "4": "10", "5": "17", "9999999": "106", "9999998": "11"} {
		k, err := strconv.Atoi(n)
		if err != nil {
			t.Fatal(err)
		}
		words, err := asm.Assemble(play.Lines(k), 0)
		if err != nil {
			t.Fatal(err)
		}
		pairs := [][2]string{{"asm break", "ok"}, {"load 8", "1"}, {"play " + n, many}, {"pc", "0"}, {"go 0", "0"}}
		for _, i := range []int{0, 1, 5, 9, 10, 16, 96, 105, 106} {
			w := uint32(0)
			if i < len(words) {
				w = words[i]
			}
			pairs = append(pairs, [2]string{fmt.Sprint("mem ", 4*i), fmt.Sprint(w)})
		}
		holds(t, append(pairs, [2]string{"load 8", "1"}, [2]string{"mem 0", "13"}, [2]string{"pc", "8"})...)
	}
}

// P160: a play needs no lines of the script's, whatever is wrong with them.
func TestPlaysDoNotReadTheProgram(t *testing.T) {
	holds(t, [2]string{"asm what", "ok"}, [2]string{"load 0", "changeling: name"}, [2]string{"play 0", "10"}, [2]string{"load 0", "changeling: name"},
		[2]string{"set 0 1 1 0", "ok"}, [2]string{"play 0", "10"}, [2]string{"go 404", "404"}, [2]string{"reg 1", "5050"}, [2]string{"out", "ba"}, [2]string{"trace", "403:w:65536:5050"})
}

// P160: a loop that is longer than a region tells Hot and Most at first from those beside them.
func TestTheFirstConfigShows(t *testing.T) {
	program := append([]string{"loop:"}, slices.Repeat([]string{"addiu $1, $1, 1"}, 26)...)
	program = append(program, "j loop", "sll $0, $0, 0")
	words, err := asm.Assemble(program, 0)
	if err != nil {
		t.Fatal(err)
	}
	goOn := slices.Repeat([]string{"go 1"}, api.MaxScript-len(program)-1)
	got := run(t, slices.Concat(source(program), []string{"load 0"}, goOn)...)[len(program)+1:]
	for hot := 2; hot <= 4; hot++ {
		for most := 11; most <= 13; most++ {
			m, err := morph.New(words, 0, morph.Config{Hot: hot, Most: most, Keep: 6, Level: 2})
			if err != nil {
				t.Fatal(err)
			}
			if same := slices.Equal(got, counts(m, 1, len(goOn))); same != (hot == 3 && most == 12) {
				t.Errorf("Hot %d, Most %d are not told from the first ones: %q", hot, most, got)
			}
		}
	}
}

// counts of a machine that goes on so many times, by so many more each time.
func counts(m *morph.Morph, more, times int) []string {
	var l []string
	for range times {
		m.To(m.State().Count + more)
		l = append(l, strconv.Itoa(m.State().Count))
	}
	return l
}

// playCounts of 60 times.
func playCounts(t *testing.T, k int, c morph.Config, more int) []string {
	t.Helper()
	m, err := play.New(k, c)
	if err != nil {
		t.Fatal(err)
	}
	return counts(m, more, 60)
}

// P160: Hot, Most, Keep and Level at first, and those that set says, in this order, show in how far go goes.
func TestConfigs(t *testing.T) {
	same := morph.Config{Hot: 3, Most: 12, Keep: 6, Level: 2}
	for k := range 4 {
		for more := 1; more <= 9; more += 4 {
			goOn := slices.Repeat([]string{fmt.Sprint("go ", more)}, 60)
			first := playCounts(t, k, same, more)
			if got := run(t, append([]string{fmt.Sprint("play ", k)}, goOn...)...)[1:]; !slices.Equal(got, first) {
				t.Errorf("play %d by %d: %q, not %q", k, more, got, first)
			}
			for _, c := range []morph.Config{same, {Hot: 0, Most: 1, Keep: 1}, {Hot: 1, Most: 24, Keep: 40, Level: 2}, {Hot: 9, Most: 5, Keep: 2, Level: 1}, {Hot: 5, Most: 9, Keep: 1}} {
				set := fmt.Sprintf("set %d %d %d %d", c.Hot, c.Most, c.Keep, c.Level)
				want := playCounts(t, k, c, more)
				if got := run(t, append([]string{set, fmt.Sprint("play ", k)}, goOn...)...)[2:]; !slices.Equal(got, want) {
					t.Errorf("%s, play %d by %d: %q, not %q", set, k, more, got, want)
				}
				if c != same && k == 0 && more == 1 && slices.Equal(want, first) {
					t.Errorf("%s is no test", set)
				}
			}
		}
	}
}

// P160: Config.Check's bounds, each number at its own place.
func TestBoundsOfConfigs(t *testing.T) {
	for _, l := range []string{"0 1 1 0", "1000 24 40 2", "0 24 1 0", "1000 1 1 0", "0 1 40 0", "0 1 1 2", "3 12 6 2"} {
		holds(t, [2]string{"set " + l, "ok"})
	}
	for _, l := range []string{"1001 1 1 0", "0 0 1 0", "0 25 1 0", "0 1 0 0", "0 1 41 0", "0 1 1 3", "9999999 9999999 9999999 9999999", "0 0 0 0"} {
		holds(t, [2]string{"set " + l, "changeling: bound"})
	}
}

// P160: set is for machines to come; one that is refused leaves the config that was there.
func TestSetIsForMachinesToCome(t *testing.T) {
	goOn := slices.Repeat([]string{"go 1"}, 30)
	exact := run(t, append([]string{"set 0 1 1 0", "play 0", "set 1 24 40 2"}, goOn...)...)[3:]
	for n, got := range exact {
		if got != strconv.Itoa(n+1) {
			t.Fatalf("the machine that was there: %q", exact)
		}
	}
	if later := run(t, append([]string{"set 0 1 1 0", "play 0", "set 1 24 40 2", "play 0"}, goOn...)...)[4:]; slices.Equal(later, exact) {
		t.Errorf("the one that came: %q", later)
	}
	for _, wrong := range []string{"set 1 24 41 2", "set 1 25 40 2", "set 1 24 40", "set 1 24 40 02"} {
		if kept := run(t, append([]string{"set 0 1 1 0", wrong, "play 0"}, goOn...)...)[3:]; !slices.Equal(kept, exact) {
			t.Errorf("behind %q: %q", wrong, kept)
		}
	}
}

// P160: go goes on by so many from where it stands, and tells where it stands then; without plans just there.
func TestGo(t *testing.T) {
	holds(t, [2]string{"set 0 1 1 0", "ok"}, [2]string{"play 3", "106"}, [2]string{"go 0", "0"}, [2]string{"go 1", "1"}, [2]string{"go 7", "8"},
		[2]string{"go 0", "8"}, [2]string{"go 992", "1000"}, [2]string{"go 1000", "2000"}, [2]string{"go 99999", "101999"}, [2]string{"go 1", "102000"})
}

// P160: To makes at most MaxSteps turns.
func TestGoEnds(t *testing.T) {
	holds(t, [2]string{"set 0 1 1 0", "ok"}, [2]string{"play 0", "10"}, [2]string{"go 9999999", "100000"}, [2]string{"go 100001", "200000"}, [2]string{"go 100000", "300000"})
	m, err := play.New(0, morph.Config{Hot: 3, Most: 12, Keep: 6, Level: 2})
	if err != nil {
		t.Fatal(err)
	}
	m.To(9999999)
	holds(t, [2]string{"play 0", "10"}, [2]string{"go 9999999", strconv.Itoa(m.State().Count)})
}

// P162: with plans go may go beyond by at most MaxRegion - 1, which some of these do.
func TestGoMayGoBeyond(t *testing.T) {
	beyond := 0
	for k := range 4 {
		for _, more := range []int{1, 2, 5, 30} {
			lines := []string{"set 1 24 40 2", fmt.Sprint("play ", k)}
			was := 0
			for _, text := range run(t, append(lines, slices.Repeat([]string{fmt.Sprint("go ", more)}, 50)...)...)[2:] {
				n, err := strconv.Atoi(text)
				if err != nil || n < was+more || n >= was+more+api.MaxRegion {
					t.Fatalf("play %d by %d: %q behind %d", k, more, text, was)
				}
				if n > was+more {
					beyond++
				}
				was = n
			}
		}
	}
	if beyond == 0 {
		t.Error("no test: nothing went beyond")
	}
}

// P160: registers, each by its number; 0 is 0.
func TestRegisters(t *testing.T) {
	lines := []string{"set 0 1 1 0"}
	for r := range 32 {
		lines = append(lines, fmt.Sprintf("asm addiu $%d, $0, %d", r, -1-r))
	}
	lines = append(lines, "load 0", "go 32")
	many := len(lines)
	for r := range 32 {
		lines = append(lines, fmt.Sprint("reg ", r))
	}
	got := run(t, lines...)[many:]
	if got[0] != "0" {
		t.Errorf("register 0: %q", got[0])
	}
	for r := 1; r < 32; r++ {
		if want := strconv.Itoa(1<<32 - 1 - r); got[r] != want {
			t.Errorf("register %d: %q, not %q", r, got[r], want)
		}
	}
}

// P160: words of memory by their addresses, up to the last one.
func TestMemory(t *testing.T) {
	holds(t, [2]string{"asm ori $1, $0, 16380", "ok"}, [2]string{"asm addiu $2, $0, -2", "ok"}, [2]string{"asm sw $2, 0($1)", "ok"}, [2]string{"asm sb $2, -5($1)", "ok"},
		[2]string{"set 0 1 1 0", "ok"}, [2]string{"load 0", "4"}, [2]string{"mem 16380", "0"}, [2]string{"go 4", "4"},
		[2]string{"mem 16380", "4294967294"}, [2]string{"mem 16372", "254"}, [2]string{"mem 16376", "0"}, [2]string{"mem 0", "872497148"}, [2]string{"mem 16", "0"})
}

// P160: bytes of the output, two digits each.
func TestOutput(t *testing.T) {
	// The lowest byte of a register that counts from 0 to 255 is stored each time.
	lines := append([]string{"set 0 1 1 0"}, source([]string{"lui $4, 1", "loop:", "sw $1, 0($4)", "addiu $1, $1, 1", "j loop", "sll $0, $0, 0"})...)
	want := ""
	for b := range 256 {
		want += fmt.Sprintf("%02x", b)
	}
	if got := last(t, append(lines, "load 0", "go 1", "go 1024", "out")...); got != want {
		t.Errorf("%q, not %q", got, want)
	}
	if got := last(t, append(lines, "load 0", "go 1", "go 1028", "out")...); got != want+"00" {
		t.Errorf("%q, not %q", got, want+"00")
	}
	if got := last(t, append(lines, "load 0", "go 1", "out")...); got != "nothing" {
		t.Errorf("%q", got)
	}
}

// P160: accesses of each device, in order, with the whole word.
func TestTrace(t *testing.T) {
	lines := append([]string{"set 0 1 1 0"}, source([]string{
		"lui $4, 1", "addiu $1, $0, -1", "sw $1, 0($4)", "lw $2, 0($4)", "lw $2, 4($4)", "sw $1, 4($4)", "sw $1, 8($4)", "lw $2, 8($4)", "sw $1, 12($4)", "lw $2, 12($4)", "sw $1, 256($0)", "lw $3, 256($0)", "lb $2, 0($4)",
	})...)
	want := "2:w:65536:4294967295 3:r:65536:0 4:r:65540:4 5:w:65540:4294967295 6:w:65544:4294967295 7:r:65544:4294967295 8:w:65548:4294967295 9:r:65548:0"
	got := run(t, append(lines, "load 0", "go 2", "trace", "go 1", "trace", "go 10", "trace", "lamp", "out", "cause", "mem 256", "trace")...)[len(lines):]
	if all := []string{"13", "2", "nothing", "3", "2:w:65536:4294967295", "13", want, "4294967295", "ff", "4", "4294967295", want}; !slices.Equal(got, all) {
		t.Errorf("%q, not %q", got, all)
	}
}

// P160: of Cause only the code, whether it was in a slot or not.
func TestCauses(t *testing.T) {
	for program, want := range map[string]int{
		"syscall": api.Sys, "break": api.Bp, "eret": api.RI, "lw $1, 2($0)": api.AdEL, "sw $1, 1($0)": api.AdES, ".word 4294967295": api.RI, "mfc0 $1, $1": api.RI,
	} {
		lines := []string{"set 0 1 1 0", "asm " + program, "load 0", "cause", "go 1", "cause"}
		if got := run(t, lines...); got[3] != "0" || got[5] != strconv.Itoa(want) {
			t.Errorf("%s: %q, not %d", program, got, want)
		}
		lines = []string{"set 0 1 1 0", "asm j to", "asm " + program, "asm to:", "load 0", "go 2", "cause", "pc"}
		if got := run(t, lines...); got[6] != strconv.Itoa(want) || got[7] != "384" {
			t.Errorf("%s in a slot: %q, not %d", program, got, want)
		}
	}
	most := []string{"set 0 1 1 0", "asm lui $1, 32767", "asm ori $1, $1, 65535", "asm addi $1, $1, 1", "load 0", "go 3", "cause"}
	if got := last(t, most...); got != strconv.Itoa(api.Ov) {
		t.Errorf("%q", got)
	}
	if got := last(t, "set 0 1 1 0", "asm ori $1, $0, 1", "asm mtc0 $1, $11", "asm mtc0 $1, $12", "load 0", "go 4", "cause"); got != strconv.Itoa(api.Int) {
		t.Errorf("%q", got)
	}
}

// P160: words of texts, and texts of words; neither needs a machine.
func TestWordsAndTexts(t *testing.T) {
	for text, w := range map[string]uint32{
		"sll $0, $0, 0": 0, "syscall": 12, "add $3, $1, $2": 2234400, "mult $31, $31": 31<<21 | 31<<16 | 24, "srav $1, $2, $3": 3<<21 | 2<<16 | 1<<11 | 7, "jr $4": 4<<21 | 8,
		"addiu $1, $0, 7": 604045319, "eret": 1107296280, "lw $2, -4($4)": 2357395452, "j 67108863": 201326591, "lui $31, 65535": 1008730111, "bne $0, $0, -1": 335609855,
	} {
		holds(t, [2]string{"word " + text, strconv.Itoa(int(w))})
		if w < 10000000 {
			holds(t, [2]string{fmt.Sprint("text ", w), text})
		}
	}
	for text, answer := range map[string]string{
		"": "changeling: name", " ": "changeling: name", "what": "changeling: name", " syscall": "changeling: name", "again:": "changeling: name", ".word 7": "changeling: name",
		"add $1": "changeling: text", "syscall ": "changeling: text", "j to": "changeling: text", "addiu $1, $0, 07": "changeling: text",
		"add $1, $2, $32": "changeling: bound", "addiu $1, $0, 32768": "changeling: bound", "sll $1, $2, 32": "changeling: bound", "j 67108864": "changeling: bound",
	} {
		holds(t, [2]string{"word " + text, answer})
	}
	for _, n := range []string{"1", "5", "9999999", "63", "14"} {
		holds(t, [2]string{"text " + n, "changeling: kind"})
	}
}

// P160: a look changes nothing that a later one could tell.
func TestLooksChangeNothing(t *testing.T) {
	look := []string{"reg 1", "reg 32", "mem 0", "mem 2", "mem 16384", "mem 65540", "pc", "cause", "out", "lamp", "trace", "word syscall", "text 12", "what", "load x", "go 0"}
	lines := append([]string{"play 3", "go 200"}, slices.Repeat(look, 6)...)
	got := run(t, lines...)[2:]
	for n, text := range got {
		if first := got[n%len(look)]; text != first {
			t.Errorf("%q: %q, then %q", look[n%len(look)], first, text)
		}
	}
	if trace := got[10]; !strings.Contains(trace, ":r:65540:") || trace != last(t, "play 3", "go 200", "trace") {
		t.Errorf("trace is %q", trace)
	}
}
