package side

import "sync"

// made is what came of the task of that number.
type made[Answer any] struct {
	number int
	answer Answer
	err    error
}

// each task done, by so many workers: its answer at its own number, whoever made it, and whenever. Of errors the one of the lowest number is told.
func each[Task, Answer any](tasks []Task, workers int, do func(Task) (Answer, error)) ([]Answer, error) {
	numbers, results := make(chan int), make(chan made[Answer])
	var group sync.WaitGroup
	for range min(workers, len(tasks)) {
		group.Add(1)
		go func() {
			defer group.Done()
			for n := range numbers {
				answer, err := do(tasks[n])
				results <- made[Answer]{n, answer, err}
			}
		}()
	}
	all := gather(len(tasks), numbers, results)
	close(numbers)
	group.Wait()
	return inOrder(all)
}

// gather hands out all numbers, and takes as many results, in one select: a worker that waits for a number and one that has a result never wait for each other.
func gather[Answer any](many int, numbers chan<- int, results <-chan made[Answer]) []made[Answer] {
	all := make([]made[Answer], many)
	next, got := 0, 0
	for got < many {
		if next == many {
			// Nobody takes from a channel that is nil: only results are left.
			numbers = nil
		}
		select {
		case numbers <- next:
			next++
		case r := <-results:
			all[r.number] = r
			got++
		}
	}
	return all
}

// inOrder are the answers alone, or the first error.
func inOrder[Answer any](all []made[Answer]) ([]Answer, error) {
	answers := make([]Answer, len(all))
	for n, r := range all {
		if r.err != nil {
			return nil, r.err
		}
		answers[n] = r.answer
	}
	return answers, nil
}
