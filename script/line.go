package script

import (
	"strconv"
	"strings"
)

const (
	mostNumbers = 4 // of one command
	mostDigits  = 7 // of one number
)

// numbers of a command; those that it does not take are 0.
type numbers [mostNumbers]int

// takes tells how many numbers stand behind a command's name; of a name that is none's there are never so many.
func takes(name string) int {
	switch name {
	case "clear", "pc", "cause", "out", "lamp", "trace":
		return 0
	case "load", "play", "go", "reg", "mem", "text":
		return 1
	case "set":
		return mostNumbers
	}
	return -1
}

// read the numbers of a line that is a command of numbers alone.
func read(line string) (numbers, bool) {
	parts := strings.Split(line, " ")
	if len(parts)-1 != takes(parts[0]) {
		return numbers{}, false
	}
	var all numbers
	for i, part := range parts[1:] {
		n, ok := number(part)
		if !ok {
			return numbers{}, false
		}
		all[i] = n
	}
	return all, true
}

// number of a text that is just as one is written.
func number(text string) (int, bool) {
	if len(text) > mostDigits {
		return 0, false
	}
	n, err := strconv.Atoi(text)
	if err != nil || n < 0 || strconv.Itoa(n) != text {
		return 0, false
	}
	return n, true
}
