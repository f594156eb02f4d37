package ram_test

import (
	"math"
	"slices"
	"testing"

	"changeling/api"
	"changeling/ram"
	"changeling/word"
)

const (
	size  = api.RamSize
	words = size / 4
	pages = size / api.PageSize
	ones  = math.MaxUint32
)

// numbers tells words from a fixed rule, each time another one.
func numbers() func() uint32 {
	x := uint32(2463534242)
	return func() uint32 {
		x ^= x << 13
		x ^= x >> 17
		x ^= x << 5
		return x
	}
}

// filled memory, and the words in it: no two bytes side by side are the same for long.
func filled() (*ram.Ram, []uint32) {
	next, l := numbers(), make([]uint32, words)
	for i := range l {
		l[i] = next()
	}
	return ram.New(l), l
}

// loads tells whether a load answers just that.
func loads(t *testing.T, r *ram.Ram, addr uint32, size int, signed bool, want uint32, wantErr error) {
	t.Helper()
	if v, err := r.Load(addr, size, signed); v != want || err != wantErr {
		t.Errorf("Load(%d, %d, %v) = %08x, %v, not %08x, %v", addr, size, signed, v, err, want, wantErr)
	}
}

func stores(t *testing.T, r *ram.Ram, addr uint32, size int, v uint32) {
	t.Helper()
	if err := r.Store(addr, size, v); err != nil {
		t.Errorf("Store(%d, %d, %08x): %v", addr, size, v, err)
	}
}

func watch(t *testing.T, r *ram.Ram, on bool, pages ...int) {
	t.Helper()
	for _, p := range pages {
		if err := r.Watch(p, on); err != nil {
			t.Errorf("Watch(%d, %v): %v", p, on, err)
		}
	}
}

func hits(t *testing.T, r *ram.Ram, want ...int) {
	t.Helper()
	if got := r.Hits(); !slices.Equal(got, want) {
		t.Errorf("Hits() = %v, not %v", got, want)
	}
}

func holds(t *testing.T, r *ram.Ram, want []uint32) {
	t.Helper()
	got := r.Words()
	if len(got) != words || len(want) != words {
		t.Fatalf("%d words, not %d, of %d", len(got), len(want), words)
	}
	for i := range want {
		if got[i] != want[i] {
			t.Fatalf("word %d is %08x, not %08x", i, got[i], want[i])
		}
	}
}

// P40: the document's example.
func TestExampleBytes(t *testing.T) {
	r := ram.New(nil)
	for i := range uint32(4) {
		stores(t, r, i, 1, i+1)
	}
	loads(t, r, 0, 4, false, 16909060, nil)
	loads(t, ram.New([]uint32{16909060}), 2, 1, false, 3, nil)
}

// P40
func TestNewOfAnyNumberOfWords(t *testing.T) {
	for _, n := range []int{0, 1, 63, 64, 65, 128, words - 1, words, words + 1, words + 64, 3 * words} {
		l, want := make([]uint32, n), make([]uint32, words)
		for i := range l {
			l[i] = uint32(i) + 0x80818283
		}
		copy(want, l)
		holds(t, ram.New(l), want)
	}
	holds(t, ram.New(nil), make([]uint32, words))
}

// P3: what lies behind a list's length is not read.
func TestNewReadsNoWordBehindItsList(t *testing.T) {
	l := []uint32{1, 2, 3, 4}
	want := make([]uint32, words)
	want[0], want[1] = 1, 2
	holds(t, ram.New(l[:2]), want)
}

// P4
func TestWordsAreKeptByNobodyElse(t *testing.T) {
	l := []uint32{7, 8}
	r := ram.New(l)
	l[0] = 9
	stores(t, r, 4, 4, 10)
	if l[1] != 8 {
		t.Errorf("a store changed the list that was given: %v", l)
	}
	r.Words()[0] = 11
	loads(t, r, 0, 4, false, 7, nil)
	told := r.Words()
	stores(t, r, 0, 4, 12)
	if told[0] != 7 {
		t.Errorf("a store changed words that were told: %d", told[0])
	}
}

// P40
func TestLoadOfEverySize(t *testing.T) {
	r := ram.New([]uint32{0x01028384, 0x7FFF8000, ones})
	for _, c := range []struct {
		addr             uint32
		size             int
		unsigned, signed uint32
	}{
		{0, 1, 0x01, 0x01},
		{1, 1, 0x02, 0x02},
		{2, 1, 0x83, 0xFFFFFF83},
		{3, 1, 0x84, 0xFFFFFF84},
		{0, 2, 0x0102, 0x0102},
		{2, 2, 0x8384, 0xFFFF8384},
		{0, 4, 0x01028384, 0x01028384},
		{4, 1, 0x7F, 0x7F},
		{6, 1, 0x80, 0xFFFFFF80},
		{7, 1, 0, 0},
		{4, 2, 0x7FFF, 0x7FFF},
		{6, 2, 0x8000, 0xFFFF8000},
		{8, 1, 0xFF, ones},
		{10, 2, 0xFFFF, ones},
		{8, 4, ones, ones},
		{12, 4, 0, 0},
	} {
		loads(t, r, c.addr, c.size, false, c.unsigned, nil)
		loads(t, r, c.addr, c.size, true, c.signed, nil)
	}
}

// P40
func TestStoreOfTheLowestBytes(t *testing.T) {
	for _, c := range []struct {
		addr uint32
		size int
		want uint32
	}{
		{0, 1, 0xDD222222},
		{1, 1, 0x22DD2222},
		{2, 1, 0x2222DD22},
		{3, 1, 0x222222DD},
		{0, 2, 0xCCDD2222},
		{2, 2, 0x2222CCDD},
		{0, 4, 0xAABBCCDD},
	} {
		for _, at := range []int{0, 1, 63, 64, words - 1} {
			want := make([]uint32, words)
			for i := range want {
				want[i] = 0x22222222
			}
			r := ram.New(want)
			stores(t, r, uint32(4*at)+c.addr, c.size, 0xAABBCCDD)
			want[at] = c.want
			holds(t, r, want)
		}
	}
}

// P40: the edge of memory.
func TestTheLastBytes(t *testing.T) {
	for _, n := range []int{1, 2, 4} {
		r, l := filled()
		addr := uint32(size - n)
		loads(t, r, addr, n, false, word.Wide(l[words-1], 8*n, false), nil)
		loads(t, r, addr, n, true, word.Wide(l[words-1], 8*n, true), nil)
		stores(t, r, addr, n, 0x80)
		loads(t, r, addr, n, false, 0x80, nil)
	}
}

// P40, P3: errors, bare, the first one that is so; nothing is changed, and no page is hit.
func TestErrorsInTheirOrder(t *testing.T) {
	r, l := filled()
	for p := range pages {
		watch(t, r, true, p)
	}
	for _, c := range []struct {
		addr uint32
		size int
		err  error
	}{
		{0, 0, api.ErrShape},
		{0, 3, api.ErrShape},
		{0, 5, api.ErrShape},
		{0, 8, api.ErrShape},
		{0, -1, api.ErrShape},
		{0, -4, api.ErrShape},
		{0, math.MinInt, api.ErrShape},
		{0, math.MaxInt, api.ErrShape},
		{0, 1 << 32, api.ErrShape},
		{0, 1<<32 + 4, api.ErrShape},
		{1, 3, api.ErrShape},
		{size, 0, api.ErrShape},
		{ones, 16, api.ErrShape},
		{1, 2, api.ErrAlign},
		{255, 2, api.ErrAlign},
		{1, 4, api.ErrAlign},
		{2, 4, api.ErrAlign},
		{3, 4, api.ErrAlign},
		{size - 1, 2, api.ErrAlign},
		{size - 1, 4, api.ErrAlign},
		{size - 2, 4, api.ErrAlign},
		{size + 1, 2, api.ErrAlign},
		{size + 2, 4, api.ErrAlign},
		{ones, 2, api.ErrAlign},
		{ones, 4, api.ErrAlign},
		{size, 1, api.ErrFar},
		{size, 2, api.ErrFar},
		{size, 4, api.ErrFar},
		{size + 1, 1, api.ErrFar},
		{size + 4, 4, api.ErrFar},
		{api.Console, 4, api.ErrFar},
		{1 << 31, 4, api.ErrFar},
		{ones, 1, api.ErrFar},
		{ones - 1, 2, api.ErrFar},
		{ones - 3, 4, api.ErrFar},
	} {
		loads(t, r, c.addr, c.size, false, 0, c.err)
		loads(t, r, c.addr, c.size, true, 0, c.err)
		if err := r.Store(c.addr, c.size, 0x55555555); err != c.err {
			t.Errorf("Store(%d, %d): %v, not %v", c.addr, c.size, err, c.err)
		}
	}
	holds(t, r, l)
	hits(t, r)
}

// P40, P4: neither shows what is done to the other: bytes, watched pages, hits.
func TestCopyIsApart(t *testing.T) {
	r, l := filled()
	watch(t, r, true, 2, 5)
	stores(t, r, 512, 4, 1)
	l[128] = 1
	x := r.Copy()
	holds(t, x, l)
	if !x.Watched(512) || !x.Watched(5*256) || x.Watched(0) {
		t.Error("a copy does not watch what was watched")
	}
	stores(t, r, 5*256, 4, 2)
	stores(t, x, 0, 4, 3)
	watch(t, r, false, 2)
	watch(t, x, true, 0)
	if r.Watched(512) || r.Watched(0) || !x.Watched(512) || !x.Watched(0) {
		t.Error("a copy and what it was made of watch together")
	}
	loads(t, r, 0, 4, false, l[0], nil)
	loads(t, x, 5*256, 4, false, l[320], nil)
	hits(t, r, 2, 5)
	hits(t, x, 2)
	stores(t, x, 0, 1, 4)
	hits(t, r)
	hits(t, x, 0)
}

// P40: also of memory into which nothing was stored yet.
func TestCopyOfNothing(t *testing.T) {
	r := ram.New(nil)
	x := r.Copy()
	stores(t, x, 1024, 4, 5)
	watch(t, x, true, 4)
	stores(t, x, 1024, 4, 6)
	holds(t, r, make([]uint32, words))
	hits(t, r)
	hits(t, x, 4)
	loads(t, x, 1024, 4, false, 6, nil)
}

// P1: memory that New did not make is as one of no words: others may be handed it.
func TestRamThatNobodyMade(t *testing.T) {
	r, other := &ram.Ram{}, &ram.Ram{}
	loads(t, r, 8, 4, false, 0, nil)
	hits(t, r)
	stores(t, r, 8, 4, 7)
	loads(t, r, 8, 4, false, 7, nil)
	watch(t, other, true, 0)
	stores(t, other, 8, 4, 7)
	hits(t, other, 0)
	holds(t, (&ram.Ram{}).Copy(), make([]uint32, api.RamSize/4))
}

// P41
func TestWatchOfNoPage(t *testing.T) {
	r := ram.New(nil)
	for _, p := range []int{-1, -64, pages, pages + 1, size, math.MinInt, math.MaxInt, 1 << 32} {
		for _, on := range []bool{true, false} {
			if err := r.Watch(p, on); err != api.ErrBound {
				t.Errorf("Watch(%d, %v): %v", p, on, err)
			}
		}
	}
	for p := range uint32(2 * pages) {
		if r.Watched(p * api.PageSize) {
			t.Errorf("page %d is watched", p)
		}
	}
}

// P41: each page alone, from its first byte to its last.
func TestWatchedIsOfOnePage(t *testing.T) {
	for p := range pages {
		r := ram.New(nil)
		watch(t, r, true, p, p)
		for q := range pages {
			first := uint32(q) * api.PageSize
			for _, addr := range []uint32{first, first + 1, first + 128, first + 255} {
				if r.Watched(addr) != (p == q) {
					t.Errorf("page %d is watched; Watched(%d) = %v", p, addr, p != q)
				}
			}
		}
		watch(t, r, false, p)
		if r.Watched(uint32(p) * api.PageSize) {
			t.Errorf("page %d is watched still", p)
		}
		watch(t, r, false, p)
	}
}

// P41
func TestWatchedBeyondIsFalse(t *testing.T) {
	r := ram.New(nil)
	for p := range pages {
		watch(t, r, true, p)
	}
	for _, addr := range []uint32{size, size + 1, 2 * size, api.Console, 1 << 24, 1 << 31, ones} {
		if r.Watched(addr) {
			t.Errorf("Watched(%d), which is beyond", addr)
		}
	}
	if !r.Watched(size - 1) {
		t.Error("the last byte is not watched")
	}
}

// P41: rising, each once, and only once told.
func TestHitsInOrder(t *testing.T) {
	r := ram.New(nil)
	hits(t, r)
	watch(t, r, true, 63, 0, 17, 9, 40, 2)
	for _, addr := range []uint32{size - 1, 17 * 256, 9*256 + 255, 17*256 + 3, 0, 40*256 + 8, 1, 256, 18 * 256, 16*256 + 255} {
		stores(t, r, addr, 1, 1)
	}
	hits(t, r, 0, 9, 17, 40, 63)
	hits(t, r)
	stores(t, r, 2*256+252, 4, 0)
	hits(t, r, 2)
	hits(t, r)
}

// P41: what counts is the watch when the store went there; also of a store that leaves all as it was.
func TestHitsOfPagesThatWereWatchedThen(t *testing.T) {
	r := ram.New(nil)
	stores(t, r, 256, 4, 1)
	watch(t, r, true, 1)
	hits(t, r)
	stores(t, r, 256, 4, 1)
	watch(t, r, false, 1)
	stores(t, r, 512, 2, 1)
	hits(t, r, 1)
	stores(t, r, 256, 4, 2)
	hits(t, r)
	watch(t, r, true, 1)
	hits(t, r)
}

// P41: only stores go there.
func TestHitsAreNotOfLoads(t *testing.T) {
	r := ram.New([]uint32{1, 2})
	watch(t, r, true, 0)
	loads(t, r, 0, 4, false, 1, nil)
	r.Words()
	r.Copy()
	hits(t, r)
}

// P4
func TestHitsAreNewMemory(t *testing.T) {
	r := ram.New(nil)
	watch(t, r, true, 1, 2)
	stores(t, r, 256, 4, 1)
	first := r.Hits()
	stores(t, r, 512, 4, 1)
	hits(t, r, 2)
	if !slices.Equal(first, []int{1}) {
		t.Errorf("hits that were told became %v", first)
	}
	first[0] = 9
	hits(t, r)
}

// bytesOf memory, worked out apart from the package: byte by byte, the highest first.
type bytesOf [size]byte

func (b *bytesOf) store(addr uint32, n int, v uint32) {
	for i := n - 1; i >= 0; i-- {
		b[int(addr)+i] = byte(v)
		v >>= 8
	}
}

func (b *bytesOf) load(addr uint32, n int) uint32 {
	v := uint32(0)
	for _, x := range b[addr : int(addr)+n] {
		v = v<<8 | uint32(x)
	}
	return v
}

func (b *bytesOf) words() []uint32 {
	l := make([]uint32, words)
	for i := range l {
		l[i] = b.load(uint32(4*i), 4)
	}
	return l
}

// P42
func TestWhatWasStoredIsLoadedAndNothingElseChanges(t *testing.T) {
	next, b, r := numbers(), &bytesOf{}, ram.New(nil)
	watched, hit := [pages]bool{}, [pages]bool{}
	for turn := range 20000 {
		n := []int{1, 2, 4}[next()%3]
		// Two thirds go to few pages, so that bytes are stored into again and again.
		addr := next() % size
		if turn%3 > 0 {
			addr %= 3 * api.PageSize
		}
		addr -= addr % uint32(n)
		p, v := addr/api.PageSize, next()
		stores(t, r, addr, n, v)
		b.store(addr, n, v)
		hit[p] = hit[p] || watched[p]
		loads(t, r, addr, n, false, word.Wide(v, 8*n, false), nil)
		loads(t, r, addr, n, true, word.Wide(v, 8*n, true), nil)
		m := []int{1, 2, 4}[next()%3]
		other := next() % size / 4 * 4
		loads(t, r, other, m, false, b.load(other, m), nil)
		q := next() % pages
		watched[q] = turn%2 == 0
		watch(t, r, watched[q], int(q))
		if turn%500 == 0 {
			holds(t, r, b.words())
			want := []int{}
			for p, is := range hit {
				if is {
					want = append(want, p)
				}
			}
			hits(t, r, want...)
			hit = [pages]bool{}
		}
	}
	holds(t, r, b.words())
}
