package side

import (
	"sync"

	"concordat/api"
	"concordat/play"
)

// maxTasks of one call.
const maxTasks = 100

// made of a task: its number says where it belongs, whoever comes first.
type made[Answer any] struct {
	number int
	answer Answer
	err    error
}

// each task's answer, in the order of the tasks, or the error of the first one that has one.
func each[Task, Answer any](tasks []Task, workers int, do func(Task) (Answer, error)) ([]Answer, error) {
	if workers < 1 || workers > api.Workers {
		return nil, api.ErrShape
	}
	if len(tasks) > maxTasks {
		return nil, api.ErrBound
	}
	return answersOf(share(tasks, workers, do))
}

// share the tasks among so many goroutines, all of which have ended when it answers.
func share[Task, Answer any](tasks []Task, workers int, do func(Task) (Answer, error)) []made[Answer] {
	numbers := make(chan int)
	back := make(chan made[Answer])
	var all sync.WaitGroup
	for range workers {
		all.Add(1)
		go func() {
			defer all.Done()
			for n := range numbers {
				answer, err := do(tasks[n])
				back <- made[Answer]{n, answer, err}
			}
		}()
	}
	done := lead(len(tasks), numbers, back)
	all.Wait()
	return done
}

// lead the workers: numbers go out, and what was made comes back, whichever is ready. (If all numbers went out first, the workers would wait to send, and nobody would take it.)
func lead[Answer any](many int, numbers chan<- int, back <-chan made[Answer]) []made[Answer] {
	done := make([]made[Answer], many)
	next, open := 0, numbers
	for came := 0; came < many; {
		if next == many {
			open = nil // so that it is never chosen again
		}
		select {
		case open <- next:
			next++
		case m := <-back:
			done[m.number] = m
			came++
		}
	}
	close(numbers)
	return done
}

// answersOf what was made.
func answersOf[Answer any](done []made[Answer]) ([]Answer, error) {
	var answers []Answer
	for _, m := range done {
		if m.err != nil {
			return nil, &api.Fault{At: m.number, Err: play.Bare(m.err)}
		}
		answers = append(answers, m.answer)
	}
	return answers, nil
}
