package script_test

import (
	"errors"
	"fmt"
	"regexp"
	"slices"
	"strconv"
	"strings"
	"testing"

	"changeling/api"
	"changeling/asm"
	"changeling/bus"
	"changeling/code"
	"changeling/cpu"
	"changeling/morph"
	"changeling/play"
)

// forms of lines that are commands, as P160 has them.
var forms = regexp.MustCompile(`(?s)^(?:(asm|word) (.*)|(clear|pc|cause|out|lamp|trace)|(load|play|go|reg|mem|text) (0|[1-9][0-9]{0,6})|set (0|[1-9][0-9]{0,6}) (0|[1-9][0-9]{0,6}) (0|[1-9][0-9]{0,6}) (0|[1-9][0-9]{0,6}))$`)

// model answers lines by a processor that goes step by step; only how far go goes it takes from the answer, within its bounds.
type model struct {
	program []string
	config  morph.Config // of machines to come
	hot     int          // of the machine that is there
	s       *api.State
	b       *bus.Bus
}

func newModel() *model { return &model{config: morph.Config{Hot: 3, Most: 12, Keep: 6, Level: 2}} }

func atoi(text string) int {
	n, err := strconv.Atoi(text)
	if err != nil {
		return -1
	}
	return n
}

// bare is an error's text.
func bare(err error) string {
	for _, e := range []error{api.ErrText, api.ErrBound, api.ErrShape, api.ErrKind, api.ErrName, api.ErrNone, api.ErrExist, api.ErrFull, api.ErrAlign, api.ErrFar} {
		if errors.Is(err, e) {
			return e.Error()
		}
	}
	return fmt.Sprint("another error: ", err)
}

// either a text, or the error's.
func either(text any, err error) string {
	if err != nil {
		return bare(err)
	}
	return fmt.Sprint(text)
}

// answer that a line must have; got is the one that it has.
func (m *model) answer(line, got string) string {
	p := forms.FindStringSubmatch(line)
	switch {
	case p == nil:
		return bare(api.ErrText)
	case p[1] == "asm":
		m.program = append(m.program, p[2])
		return "ok"
	case p[1] == "word":
		i, err := asm.Parse(p[2])
		w, _ := code.Encode(i)
		return either(w, err)
	case p[3] == "clear":
		m.program = nil
		return "ok"
	case p[4] == "load":
		return m.begin(m.program, atoi(p[5]))
	case p[4] == "play":
		return m.begin(play.Lines(atoi(p[5])), 0)
	case p[4] == "text":
		return either(asm.Text(code.Decode(uint32(atoi(p[5])))))
	case p[6] != "":
		c := morph.Config{Hot: atoi(p[6]), Most: atoi(p[7]), Keep: atoi(p[8]), Level: atoi(p[9])}
		err := c.Check()
		if err == nil {
			m.config = c
		}
		return either("ok", err)
	case m.s == nil:
		return bare(api.ErrNone)
	case p[4] == "go":
		return m.follow(m.s.Count+atoi(p[5]), got)
	case p[4] != "":
		return m.at(p[4], atoi(p[5]))
	}
	return m.look(p[3])
}

func (m *model) begin(program []string, pc int) string {
	words, err := asm.Assemble(program, 0)
	if err == nil {
		m.s, m.b, m.hot = cpu.New(uint32(pc)), bus.New(words), m.config.Hot
	}
	return either(len(words), err)
}

// follow to where it went: without plans just there, with them perhaps beyond.
func (m *model) follow(least int, got string) string {
	most := least
	if m.hot > 0 && least > m.s.Count {
		most += api.MaxRegion - 1
	}
	n := atoi(got)
	if n < least || n > most {
		return fmt.Sprintf("a number from %d to %d", least, most)
	}
	cpu.Run(m.s, m.b, n-m.s.Count)
	return strconv.Itoa(n)
}

// at a register, or an address.
func (m *model) at(name string, n int) string {
	if name == "mem" {
		return either(m.b.Ram().Load(uint32(n), 4, false))
	}
	if n > 31 {
		return bare(api.ErrBound)
	}
	return fmt.Sprint(m.s.R[n])
}

func (m *model) look(name string) string {
	text := ""
	switch name {
	case "pc":
		return fmt.Sprint(m.s.PC)
	case "cause":
		return fmt.Sprint(m.s.Cause / 4 % 32)
	case "lamp":
		return fmt.Sprint(m.b.Lamp())
	case "out":
		text = fmt.Sprintf("%x", m.b.Output())
	case "trace":
		for _, a := range m.b.Trace() {
			text += fmt.Sprintf(" %d:%s:%d:%d", a.Count, map[bool]string{true: "w", false: "r"}[a.Store], a.Addr, a.Value)
		}
		text = strings.TrimPrefix(text, " ")
	}
	if text == "" {
		return "nothing"
	}
	return text
}

// follows holds the answers of lines against the model's.
func follows(t *testing.T, lines []string) []string {
	t.Helper()
	m := newModel()
	got := run(t, lines...)
	for n, line := range lines {
		if want := m.answer(line, got[n]); got[n] != want {
			t.Fatalf("line %d of %q:\n got %q\nwant %q", n, lines, got[n], want)
		}
	}
	return got
}

// looks at all that a line tells of a machine.
func looks() []string {
	l := []string{"pc", "cause", "out", "lamp", "trace"}
	for _, n := range []int{0, 1, 2, 3, 4, 5, 6, 8, 9, 20, 21, 22, 23, 31, 32} {
		l = append(l, fmt.Sprint("reg ", n))
	}
	for _, n := range []int{0, 12, 40, 388, 4096, 4172, 16380, 16384, 2} {
		l = append(l, fmt.Sprint("mem ", n))
	}
	return l
}

// P162: at whatever config, behind each go all is as a processor has it at that Count, up to where the lines end.
func TestPlaysAreAsAProcessor(t *testing.T) {
	for k := range 4 {
		for _, set := range []string{"set 0 1 1 0", "set 3 12 6 2", "set 1 24 40 2", "set 1 2 1 0", "set 2 7 2 1", "set 1000 24 40 2", "set 1 24 1 2"} {
			for _, more := range []int{1, 3, 17, 64, 500} {
				lines := []string{set, fmt.Sprint("play ", k)}
				for len(lines)+1+len(looks()) <= api.MaxScript {
					lines = append(append(lines, fmt.Sprint("go ", more)), looks()...)
				}
				follows(t, lines)
				goOn := append([]string{set, fmt.Sprint("play ", k)}, slices.Repeat([]string{fmt.Sprint("go ", more)}, 60)...)
				follows(t, append(goOn, looks()...))
			}
		}
	}
}

// P162: where a program has come to its end, all configs make the same answers.
func TestAtTheEndAllConfigsAreTheSame(t *testing.T) {
	tell := []string{"reg 1", "reg 2", "reg 3", "reg 4", "reg 5", "reg 6", "reg 7", "out", "lamp", "trace", "cause", "mem 0", "mem 12", "mem 4096", "mem 4172"}
	for k := range 3 {
		if k == 2 {
			// Its last loop has no end for register 5, but for the others.
			tell = slices.DeleteFunc(tell, func(line string) bool { return line == "reg 5" })
		}
		want := follows(t, slices.Concat([]string{"set 0 1 1 0", fmt.Sprint("play ", k), "go 600"}, tell))[3:]
		for hot := range 5 {
			for _, most := range []int{1, 2, 5, 24} {
				set := fmt.Sprintf("set %d %d %d %d", hot, most, 1+most%5, most%3)
				if got := follows(t, slices.Concat([]string{set, fmt.Sprint("play ", k), "go 600"}, tell))[3:]; !slices.Equal(got, want) {
					t.Errorf("%s, play %d:\n got %q\nwant %q", set, k, got, want)
				}
			}
		}
	}
}

// chance is numbers that look like any, the same each time.
type chance uint32

func (c *chance) below(n int) int {
	*c = *c*1664525 + 1013904223
	return int(*c>>8) % n
}

func (c *chance) of(l ...string) string { return l[c.below(len(l))] }

// anyLine of a script, of a program that may well be run, or wrong.
func (c *chance) anyLine() string {
	switch c.below(12) {
	case 0, 1, 2:
		return "asm " + c.of("lui $9, 1", "addiu $1, $1, 1", "sw $1, 0($9)", "lw $2, 4($9)", "sw $2, 8($9)", "addu $3, $3, $1", "sb $1, 64($1)", "lw $5, 0($1)", "mtlo $1", "mult $1, $3", "mflo $6", "sll $1, $1, 1", "addi $3, $3, 32767", ".word 0")
	case 3:
		return "asm " + c.of("bne $1, $0, -4", "j 0", "j 2", "blez $1, 2", "syscall", "break", "jr $0", "mtc0 $1, $11", "mtc0 $1, $12", "eret", "a:", "b:", "j a", "bgtz $1, b", "what", "", "add $1")
	case 4:
		return c.of("load 0", "load 4", "load 0", "load 2", "load 384", "play 0", "play 1", "play 2", "play 3", "play 11")
	case 5:
		return fmt.Sprintf("set %d %d %d %d", c.below(5), c.below(26), c.below(42), c.below(4))
	case 6, 7:
		return fmt.Sprint("go ", c.below(40))
	case 8:
		return c.of("go 0", "go 1", "go 300", "go 2000", "clear", "pc", "cause", "lamp")
	case 9:
		return c.of(looks()...)
	case 10:
		return c.of("word syscall", "word add $1, $2, $3", "word lw $1, 4($2)", "word what", "word ", "text "+strconv.Itoa(c.below(9999999)), "text 12", "text 0", "text "+strconv.Itoa(c.below(1<<16)<<6|c.below(44)))
	}
	return c.of(noCommands()...)
}

// P160 P161 P162: any lines have the answers that the model has, and the same ones again.
func TestAnyLines(t *testing.T) {
	c := chance(16)
	for range 1500 {
		var lines []string
		for range 20 + c.below(api.MaxScript-len(looks())-19) {
			lines = append(lines, c.anyLine())
		}
		lines = append(lines, looks()...)
		got := follows(t, lines)
		if again := run(t, lines...); !slices.Equal(again, got) {
			t.Fatalf("%q:\n    %q\nnow %q", lines, got, again)
		}
	}
}
