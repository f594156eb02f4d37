package side

import (
	"errors"
	"runtime"
	"slices"
	"strconv"
	"sync"
	"sync/atomic"
	"testing"
	"time"
)

// patience is how long a test waits for what must come.
const patience = 20 * time.Second

func numbersTo(many int) []int {
	l := make([]int, many)
	for n := range l {
		l[n] = n
	}
	return l
}

// P151: each task is done once, and its answer stands at its place, of whatever types they are.
func TestEachAnswerIsAtItsPlace(t *testing.T) {
	for many := range 41 {
		for workers := 1; workers <= 16; workers++ {
			var done [41]atomic.Int32
			got, err := each(numbersTo(many), workers, func(n int) (string, error) {
				done[n].Add(1)
				for range (many - n) % 5 {
					runtime.Gosched()
				}
				return strconv.Itoa(n), nil
			})
			if err != nil || len(got) != many {
				t.Fatalf("%d tasks, %d workers: %v, %v", many, workers, got, err)
			}
			for n := range many {
				if got[n] != strconv.Itoa(n) || done[n].Load() != 1 {
					t.Fatalf("%d tasks, %d workers: %q at %d, done %d times", many, workers, got[n], n, done[n].Load())
				}
			}
		}
	}
}

// Ways: so many workers do work at once: each task here waits until as many are begun.
func TestWorkersWorkAtOnce(t *testing.T) {
	for workers := 1; workers <= 16; workers++ {
		var meet sync.WaitGroup
		meet.Add(workers)
		_, err := each(numbersTo(workers), workers, func(int) (bool, error) {
			meet.Done()
			met := make(chan bool)
			go func() {
				meet.Wait()
				close(met)
			}()
			select {
			case <-met:
				return true, nil
			case <-time.After(patience):
				return false, errors.New("alone")
			}
		})
		if err != nil {
			t.Fatalf("%d workers: %v", workers, err)
		}
	}
}

// Ways: and no more of them than were asked for.
func TestNoMoreWorkersThanAsked(t *testing.T) {
	for workers := 1; workers <= 16; workers++ {
		var now, most atomic.Int32
		_, err := each(numbersTo(40), workers, func(int) (int, error) {
			at := now.Add(1)
			for was := most.Load(); at > was && !most.CompareAndSwap(was, at); was = most.Load() {
			}
			for range 20 {
				runtime.Gosched()
			}
			now.Add(-1)
			return 0, nil
		})
		if err != nil || int(most.Load()) > workers {
			t.Errorf("%d workers: %d at once, %v", workers, most.Load(), err)
		}
	}
}

// P151: a task that is long holds up no other one, and its answer is at its place though it comes last.
func TestALongTaskHoldsUpNoOther(t *testing.T) {
	for _, long := range []int{0, 5, 9} {
		others := make(chan bool, 10)
		got, err := each(numbersTo(10), 2, func(n int) (int, error) {
			if n != long {
				others <- true
				return 10 * n, nil
			}
			for range 9 {
				select {
				case <-others:
				case <-time.After(patience):
					return 0, errors.New("held up")
				}
			}
			return 10 * n, nil
		})
		if err != nil || !slices.Equal(got, []int{0, 10, 20, 30, 40, 50, 60, 70, 80, 90}) {
			t.Errorf("long %d: %v, %v", long, got, err)
		}
	}
}

// P2 P3: of several errors that of the first task is told, whoever is done first, and no answer.
func TestTheFirstErrorIsTold(t *testing.T) {
	first, second := errors.New("first"), errors.New("second")
	for workers := 1; workers <= 16; workers++ {
		for range 10 {
			got, err := each(numbersTo(20), workers, func(n int) (int, error) {
				switch n {
				case 3:
					for range 50 {
						runtime.Gosched()
					}
					return 1, first
				case 4, 19:
					return 1, second
				}
				return 1, nil
			})
			if err != first || got != nil {
				t.Fatalf("%d workers: %v, %v", workers, got, err)
			}
		}
	}
}

// P1: when it answers, nobody works any more.
func TestNobodyIsLeft(t *testing.T) {
	before := runtime.NumGoroutine()
	for n := range 200 {
		wrong := errors.New("wrong")
		each(numbersTo(n%41), 1+n%16, func(n int) (int, error) {
			if n%7 == 6 {
				return 0, wrong
			}
			return n, nil
		})
	}
	// One that has said that it is done may still have to leave.
	for end := time.Now().Add(patience); runtime.NumGoroutine() > before && time.Now().Before(end); {
		time.Sleep(time.Millisecond)
	}
	if now := runtime.NumGoroutine(); now > before {
		t.Errorf("%d goroutines, and %d ahead of it", now, before)
	}
}
