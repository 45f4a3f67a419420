package side

import (
	"errors"
	"runtime"
	"slices"
	"strconv"
	"sync"
	"testing"

	"concordat/api"
)

// 'Ways': any task and any answer; an answer stands at its task's place.
func TestEach(t *testing.T) {
	for workers := 1; workers <= api.Workers; workers++ {
		for many := range maxTasks + 1 {
			var tasks []string
			var want []int
			for i := range many {
				tasks, want = append(tasks, strconv.Itoa(7*i)), append(want, 7*i)
			}
			if got, err := each(tasks, workers, strconv.Atoi); err != nil || !slices.Equal(got, want) {
				t.Fatalf("%d tasks by %d: %v, %v", many, workers, got, err)
			}
		}
	}
}

// Each task is done just once, also where another one has an error.
func TestEachOnce(t *testing.T) {
	for workers := 1; workers <= api.Workers; workers++ {
		var lock sync.Mutex
		times := make([]int, maxTasks)
		var tasks []int
		for i := range times {
			tasks = append(tasks, i)
		}
		_, err := each(tasks, workers, func(n int) (struct{}, error) {
			lock.Lock()
			defer lock.Unlock()
			times[n]++
			if n == 3 {
				return struct{}{}, api.ErrGap
			}
			return struct{}{}, nil
		})
		if !errors.Is(err, api.ErrGap) || slices.Max(times) != 1 || slices.Min(times) != 1 {
			t.Fatalf("by %d: %v, %v", workers, times, err)
		}
	}
}

// So many really work side by side: each task waits until all of them are in work.
func TestEachSideBySide(t *testing.T) {
	for workers := 1; workers <= api.Workers; workers++ {
		var here sync.WaitGroup
		here.Add(workers)
		got, err := each(make([]int, workers), workers, func(int) (int, error) {
			here.Done()
			here.Wait()
			return workers, nil
		})
		if err != nil || !slices.Equal(got, slices.Repeat([]int{workers}, workers)) {
			t.Errorf("by %d: %v, %v", workers, got, err)
		}
	}
}

// And no more than so many.
func TestEachNoMore(t *testing.T) {
	for workers := 1; workers <= api.Workers; workers++ {
		var lock sync.Mutex
		now, most := 0, 0
		count := func(by int) {
			lock.Lock()
			defer lock.Unlock()
			now += by
			most = max(most, now)
		}
		each(make([]int, maxTasks), workers, func(int) (int, error) {
			count(1)
			defer count(-1)
			for range 20 {
				runtime.Gosched() // one too many would get in here
			}
			return 0, nil
		})
		if most < 1 || most > workers {
			t.Errorf("%d at once, not %d", most, workers)
		}
	}
}

// P121: whoever is done first, answers stand in the order of the tasks, and the first error is told: each task waits for the one behind it.
func TestEachBackward(t *testing.T) {
	tasks := make([]int, api.Workers)
	for i := range tasks {
		tasks[i] = i
	}
	got, err := each(tasks, api.Workers, backward(func(n int) (int, error) { return n, nil }))
	if err != nil || !slices.Equal(got, tasks) {
		t.Errorf("%v, %v", got, err)
	}
	got, err = each(tasks, api.Workers, backward(func(n int) (int, error) {
		if n%5 == 4 {
			return n, &api.Fault{At: 100 + n, Err: api.ErrKind}
		}
		return n, nil
	}))
	if f, is := err.(*api.Fault); len(got) != 0 || !is || f.At != 4 || f.Err != api.ErrKind {
		t.Errorf("%v, %v", got, err)
	}
}

// backward: task n is done when task n + 1 is, the last one at once.
func backward(do func(int) (int, error)) func(int) (int, error) {
	done := make([]chan struct{}, api.Workers+1)
	for i := range done {
		done[i] = make(chan struct{})
	}
	close(done[api.Workers])
	return func(n int) (int, error) {
		<-done[n+1]
		defer close(done[n])
		return do(n)
	}
}
