package script

import (
	"testing"

	"changeling/morph"
)

// P160: what it begins with. Keep and Level make no answer another one (P162), so they are looked at here.
func TestSessionsBegin(t *testing.T) {
	for range 2 {
		s := begin()
		if want := (morph.Config{Hot: 3, Most: 12, Keep: 6, Level: 2}); s.config != want || len(s.program) != 0 || s.machine != nil {
			t.Errorf("%+v", s)
		}
		if answer, err := s.do("set 5 4 3 1"); answer != "ok" || err != nil || s.config != (morph.Config{Hot: 5, Most: 4, Keep: 3, Level: 1}) {
			t.Errorf("set: %q, %v, %+v", answer, err, s.config)
		}
		if _, err := s.do("set 5 4 3 3"); err == nil || s.config != (morph.Config{Hot: 5, Most: 4, Keep: 3, Level: 1}) {
			t.Errorf("a set that is refused: %v, %+v", err, s.config)
		}
	}
}

// P160: every look is a command, and takes no number, or one.
func TestEachLookIsACommand(t *testing.T) {
	m, err := morph.New(nil, 0, begin().config)
	if err != nil {
		t.Fatal(err)
	}
	table := looks(m)
	for name, look := range table {
		if many := takes(name); many < 0 || many > 1 {
			t.Errorf("%s takes %d numbers", name, many)
		}
		if answer, err := look(0); answer == "" || err != nil {
			t.Errorf("%s: %q, %v", name, answer, err)
		}
	}
	if len(table) != 7 {
		t.Errorf("%d looks", len(table))
	}
}
