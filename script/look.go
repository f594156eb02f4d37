package script

import (
	"strconv"
	"strings"

	"changeling/api"
	"changeling/morph"
)

// nothing is told of a list that is empty.
const nothing = "nothing"

const (
	wordBytes = 4
	codeAt    = 2  // where the code of an exception begins in Cause
	codes     = 32 // how many there may be
)

// looks at a machine, by the names of their commands. One whose command takes no number does not read it.
func looks(m *morph.Morph) map[string]func(n int) (string, error) {
	return map[string]func(n int) (string, error){
		"reg":   func(n int) (string, error) { return register(m.State(), n) },
		"mem":   func(n int) (string, error) { return wordAt(m, uint32(n)) },
		"pc":    func(int) (string, error) { return decimal(m.State().PC), nil },
		"cause": func(int) (string, error) { return decimal(m.State().Cause >> codeAt % codes), nil },
		"out":   func(int) (string, error) { return hex(m.Bus().Output()), nil },
		"lamp":  func(int) (string, error) { return decimal(m.Bus().Lamp()), nil },
		"trace": func(int) (string, error) { return accesses(m.Bus().Trace()), nil },
	}
}

// register of a state.
func register(s api.State, n int) (string, error) {
	if n >= len(s.R) {
		return "", api.ErrBound
	}
	return decimal(s.R[n]), nil
}

// wordAt an address of memory: devices are not asked.
func wordAt(m *morph.Morph, addr uint32) (string, error) {
	w, err := m.Bus().Ram().Load(addr, wordBytes, false)
	if err != nil {
		return "", err
	}
	return decimal(w), nil
}

// hex digits of bytes, two of each.
func hex(output string) string {
	if output == "" {
		return nothing
	}
	const digits = "0123456789abcdef"
	text := make([]byte, 0, 2*len(output))
	for _, b := range []byte(output) {
		text = append(text, digits[b>>4], digits[b&0xF])
	}
	return string(text)
}

// accesses of devices, each with its own colons.
func accesses(trace []api.Access) string {
	if len(trace) == 0 {
		return nothing
	}
	texts := make([]string, len(trace))
	for n, a := range trace {
		kind := "r"
		if a.Store {
			kind = "w"
		}
		texts[n] = strings.Join([]string{strconv.Itoa(a.Count), kind, decimal(a.Addr), decimal(a.Value)}, ":")
	}
	return strings.Join(texts, " ")
}

func decimal(w uint32) string { return strconv.FormatUint(uint64(w), 10) }
