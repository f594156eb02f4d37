package keep_test

import (
	"fmt"
	"math"
	"slices"
	"testing"

	"changeling/api"
	"changeling/keep"
	"changeling/plan"
)

// asked is what the keep of a test knows of a plan: its text, its pages, and when it was asked for.
type asked struct {
	text  string
	pages []int
	when  int
}

// apart is a keep worked out apart from the package: it tells by numbers when each plan was asked for, and has no list.
type apart struct {
	room int
	now  int
	all  map[uint32]asked
}

// inOrder: PCs of all that are so, by when they were asked for.
func (a *apart) inOrder(so func(asked) bool) []uint32 {
	var pcs []uint32
	for pc, x := range a.all {
		if so(x) {
			pcs = append(pcs, pc)
		}
	}
	slices.SortFunc(pcs, func(x, y uint32) int { return a.all[x].when - a.all[y].when })
	return pcs
}

func all(asked) bool { return true }

func (a *apart) put(p plan.Plan, pages []int) {
	a.now++
	a.all[p.PC] = asked{text: fmt.Sprint(p), pages: slices.Clone(pages), when: a.now}
	if len(a.all) > a.room {
		delete(a.all, a.inOrder(all)[0])
	}
}

func (a *apart) get(pc uint32) (string, bool) {
	x, is := a.all[pc]
	if !is {
		return fmt.Sprint(plan.Plan{}), false
	}
	a.now++
	x.when = a.now
	a.all[pc] = x
	return x.text, true
}

func (a *apart) drop(page int) []uint32 {
	pcs := a.inOrder(func(x asked) bool { return slices.Contains(x.pages, page) })
	for _, pc := range pcs {
		delete(a.all, pc)
	}
	return pcs
}

// pages of all, of those that a test could have put.
func (a *apart) pages(could []int) []int {
	var l []int
	for _, page := range could {
		if slices.ContainsFunc(a.inOrder(all), func(pc uint32) bool { return slices.Contains(a.all[pc].pages, page) }) {
			l = append(l, page)
		}
	}
	return l
}

// numbers tells words from a fixed rule, each time another one.
func numbers(x uint32) func() uint32 {
	return func() uint32 {
		x ^= x << 13
		x ^= x >> 17
		x ^= x << 5
		return x
	}
}

// somePages are rising; those of a memory are from 0 to 63, but no chapter keeps others from being put.
func somePages() []int { return []int{math.MinInt, -1, 0, 1, 2, 31, 62, 63, 64, math.MaxInt} }

// somePlaces, among them ones that no region begins at.
func somePlaces(many int) []uint32 {
	places := []uint32{math.MaxUint32, 0, 1 << 31, 3, 4, math.MaxUint32 - 3}
	for n := range many {
		places = append(places, uint32(4000-4*n))
	}
	return places
}

// anyPlan at a place, of one row to five.
func anyPlan(next func() uint32, pc uint32) plan.Plan {
	p := plan.Plan{PC: pc, Many: int(1 + next()%24)}
	for range next() % 5 {
		p.Rows = append(p.Rows, []api.Op{{Kind: "set", D: 1, Imm: next()}, {Kind: "copy", D: 2, A: int(next() % 64)}}[:1+next()%2])
	}
	p.Rows = append(p.Rows, []api.Op{{Kind: "out", Imm: next()}})
	return p
}

// P120 P121
func TestAnyCallsAreAsOfAKeepWorkedOutApart(t *testing.T) {
	for seed := range uint32(60) {
		next := numbers(seed*7919 + 1)
		room := int(1 + next()%12)
		if seed%6 == 0 {
			room = api.MaxKeep
		}
		k, err := keep.New(room)
		if err != nil {
			t.Fatal(err)
		}
		a := &apart{room: room, all: map[uint32]asked{}}
		places := somePlaces(room)
		for n := range 300 {
			what := anyCall(t, next, k, a, places)
			if pcs := k.PCs(); !slices.Equal(pcs, a.inOrder(all)) {
				t.Fatalf("seed %d, call %d, %s: PCs are %v, not %v", seed, n, what, pcs, a.inOrder(all))
			}
			if pages := k.Pages(); !slices.Equal(pages, a.pages(somePages())) {
				t.Fatalf("seed %d, call %d, %s: pages are %v, not %v", seed, n, what, pages, a.pages(somePages()))
			}
		}
	}
}

// anyCall of both keeps, whose answers are held against each other; what it was.
func anyCall(t *testing.T, next func() uint32, k *keep.Keep, a *apart, places []uint32) string {
	t.Helper()
	pc, page := places[next()%uint32(len(places))], somePages()[next()%10]
	switch next() % 8 {
	case 0:
		got, want := k.Drop(page), a.drop(page)
		if !slices.Equal(got, want) {
			t.Fatalf("drop of %d: %v, not %v", page, got, want)
		}
		if slices.Contains(k.Pages(), page) || len(k.Drop(page)) > 0 {
			t.Fatalf("page %d was dropped, and is someone's", page)
		}
		return fmt.Sprint("drop ", page)
	case 1, 2, 3:
		got, is := k.Get(pc)
		want, wantIs := a.get(pc)
		if fmt.Sprint(got) != want || is != wantIs {
			t.Fatalf("get of %d: %v, %v, not %v, %v", pc, got, is, want, wantIs)
		}
		return fmt.Sprint("get ", pc)
	}
	var pages []int
	for range next() % 4 {
		pages = append(pages, somePages()[next()%10])
	}
	p := anyPlan(next, pc)
	if err := k.Put(p, pages); err != nil {
		t.Fatal(err)
	}
	a.put(p, pages)
	return fmt.Sprint("put ", pc, pages)
}
