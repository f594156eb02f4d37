package asm

import (
	"math"
	"strings"

	"changeling/api"
	"changeling/code"
)

// wordMark begins a line that is a word itself.
const wordMark = ".word"

// source is lines that are read, but for names whose places may come later.
type source struct {
	base   uint32
	labels map[string]int // how many words are ahead
	parts  []part
}

// part of a source: what becomes one word.
type part struct {
	line int
	word uint32  // of a line that is a word itself
	ins  api.Ins // of another one; then its Op is not Bad
	name string  // whose place its Imm is to tell, if there is one
}

// Assemble lines.
func Assemble(lines []string, base uint32) ([]uint32, error) {
	if len(lines) > api.MaxLines {
		return nil, api.ErrFull
	}
	if base%4 != 0 {
		return nil, api.ErrAlign
	}
	s := source{base: base, labels: map[string]int{}}
	for at, line := range lines {
		if err := s.add(at, line); err != nil {
			return nil, &api.Fault{At: at, Err: err}
		}
	}
	words := make([]uint32, len(s.parts))
	for n, p := range s.parts {
		w, err := s.finish(n)
		if err != nil {
			return nil, &api.Fault{At: p.line, Err: err}
		}
		words[n] = w
	}
	return words, nil
}

// add a line to a source.
func (s *source) add(at int, line string) error {
	if strings.HasPrefix(line, wordMark) {
		return s.plainWord(at, line)
	}
	if name, ok := strings.CutSuffix(line, ":"); ok {
		return s.label(name)
	}
	return s.instruction(at, line)
}

// plainWord that a line is itself.
func (s *source) plainWord(at int, line string) error {
	n, ok := number(strings.TrimPrefix(line, wordMark+" "))
	if !ok || n < 0 || n > math.MaxUint32 {
		return api.ErrText
	}
	s.parts = append(s.parts, part{line: at, word: uint32(n)})
	return nil
}

// label the place of what comes next.
func (s *source) label(name string) error {
	if !isName(name) {
		return api.ErrText
	}
	if _, ok := s.labels[name]; ok {
		return api.ErrExist
	}
	s.labels[name] = len(s.parts)
	return nil
}

// instruction of a line; a name in it is read as a 0, which every branch may have.
func (s *source) instruction(at int, line string) error {
	text, name := cutName(line)
	i, err := Parse(text)
	if err != nil {
		return err
	}
	s.parts = append(s.parts, part{line: at, ins: i, name: name})
	return nil
}

// finish the word of a part: all places are known.
func (s *source) finish(n int) (uint32, error) {
	p := s.parts[n]
	if p.ins.Op == api.Bad {
		return p.word, nil
	}
	if p.name != "" {
		imm, err := s.reach(n, p)
		if err != nil {
			return 0, err
		}
		p.ins.Imm = imm
	}
	return code.Encode(p.ins)
}

// reach is the Imm by which a branch goes to its name.
func (s *source) reach(n int, p part) (uint32, error) {
	to, ok := s.labels[p.name]
	if !ok {
		return 0, api.ErrNone
	}
	if p.ins.Op != api.IJ && p.ins.Op != api.IJal {
		// MaxLines keeps every name near enough for 16 bits.
		return uint32(uint16(to - (n + 1))), nil
	}
	place := s.place(to)
	if place>>28 != s.place(n+1)>>28 {
		return 0, api.ErrFar
	}
	return place / 4 % (1 << 26), nil
}

// place of a word of a source; behind the highest one comes 0.
func (s *source) place(n int) uint32 { return s.base + 4*uint32(n) }

// cutName from a branch whose last operand is one, and lay a 0 in its place.
func cutName(line string) (text, name string) {
	first, _, more := strings.Cut(line, " ")
	last := strings.LastIndex(line, " ") + 1
	if !more || code.Kind(operation(first)) != "branch" || !isName(line[last:]) {
		return line, ""
	}
	return line[:last] + "0", line[last:]
}

// isName tells whether a text may be a label's name.
func isName(s string) bool {
	if s == "" || len(s) > api.MaxLabel || !isLetter(rune(s[0])) {
		return false
	}
	for _, r := range s {
		if !isLetter(r) && (r < '0' || r > '9') {
			return false
		}
	}
	return true
}

func isLetter(r rune) bool { return r >= 'a' && r <= 'z' }
