package desk

import (
	"math"
	"slices"
	"testing"

	"gatehouse/api"
	"gatehouse/ties"
	"gatehouse/words"
)

// task asks who stands in a node of that name, whose cost is that many: each group holds the next.
func task(t *testing.T, name string, cost, budget, until int) Task {
	t.Helper()
	rule, ok := words.ReadRule("k#a=this")
	if !ok {
		t.Fatal("no rule")
	}
	tuples := []string{}
	group := "k:" + name + "#a"
	for at := range cost - 1 {
		next := "k:in" + string(rune('A'+at)) + "#a"
		tuples = append(tuples, group+"@"+next)
		group = next
	}
	tuples = append(tuples, group+"@u:x")
	question, ok := words.ReadQuestion("k:" + name + "#a")
	if !ok {
		t.Fatal("no question")
	}
	walk := ties.Of(map[words.Head]words.Way{rule.Head: rule.Way}, tuples).Walk(question.Node)
	return Task{Question: question, Walk: walk, Budget: budget, Until: until}
}

func takes(t *testing.T, d *Desk, task Task, want int) {
	t.Helper()
	if got := d.Take(task); got != want {
		t.Errorf("Take = %d, want %d", got, want)
	}
}

// are holds what became of the requests, from the first on, against pairs of what and steps.
func are(t *testing.T, d *Desk, want ...int) {
	t.Helper()
	for at := 0; at < len(want); at += 2 {
		if got := d.State(at/2 + 1); got.Is != want[at] || got.Steps != want[at+1] {
			t.Errorf("the request %d is %+v, want %d, %d", at/2+1, got, want[at], want[at+1])
		}
	}
}

// The clock stops at MaxNumber, and that is not above an until of MaxNumber.
func TestTheClockStops(t *testing.T) {
	d := New(1, 2)
	d.clock = api.MaxNumber - 2
	takes(t, d, task(t, "1", 1, 1, api.MaxNumber), 1)
	takes(t, d, task(t, "1", 1, 1, api.MaxNumber-1), 2)
	d.Tick()
	are(t, d, api.Waiting, 0, api.Late, 0)
	takes(t, d, task(t, "1", 1, 1, api.MaxNumber), 3)
	d.Tick()
	are(t, d, api.Late, 0, api.Late, 0, api.Late, 0)
	for range 3 {
		d.Tick()
		if d.clock != api.MaxNumber {
			t.Errorf("the clock is %d", d.clock)
		}
	}
	takes(t, d, task(t, "1", 1, 1, api.MaxNumber), 4)
	are(t, d, api.Late, 0, api.Late, 0, api.Late, 0, api.Late, 0)
}

// However a request ends, nothing of its task is kept, and its worker can have another.
func TestARequestThatEndedLeavesNothing(t *testing.T) {
	for is, end := range map[int]func(d *Desk){
		api.Done:      func(d *Desk) { d.Step(0); d.Step(0) },
		api.Budget:    func(d *Desk) { d.Step(0) },
		api.Late:      func(d *Desk) { d.Tick() },
		api.Cancelled: func(d *Desk) { d.CancelAll() },
	} {
		d := New(1, 2)
		budget := 4
		if is == api.Budget {
			budget = 2
		}
		takes(t, d, task(t, "1", 3, budget, 1), 1)
		d.Step(0)
		are(t, d, api.Working, 1)
		end(d)
		if got := d.State(1).Is; got != is {
			t.Errorf("the request is %d, want %d", got, is)
		}
		if d.workers[0] != nil || d.taken[0].task != nil {
			t.Errorf("of one that is %d, the worker has %v and the desk %v", is, d.workers[0], d.taken[0].task)
		}
		takes(t, d, task(t, "1", 1, 1, 9), 2)
		d.Step(0)
		if got := d.State(2); got.Is != api.Done || !slices.Equal(got.Users, []string{"u:x"}) {
			t.Errorf("behind one that is %d, the next is %+v", is, got)
		}
	}
}

func TestWhoIsAWorker(t *testing.T) {
	for workers := 1; workers <= api.MaxWorkers; workers++ {
		d := New(workers, 1)
		for _, worker := range []int{math.MinInt, -1, 0, 1, 2, 3, 4, 5, math.MaxInt} {
			if got := d.HasWorker(worker); got != (worker >= 0 && worker < workers) {
				t.Errorf("of %d workers one is %d: %v", workers, worker, got)
			}
		}
	}
}

func TestWhenADeskIsFull(t *testing.T) {
	for queue := 1; queue <= api.MaxQueue; queue++ {
		d := New(2, queue)
		for range queue {
			if d.IsFull() {
				t.Errorf("full with less than %d", queue)
			}
			d.Take(task(t, "1", 2, 9, 9))
		}
		if !d.IsFull() {
			t.Errorf("not full with %d", queue)
		}
		d.Step(0)
		if d.IsFull() {
			t.Errorf("full of %d, though one is worked on", queue)
		}
	}
	d := New(1, 1)
	for range api.MaxRequests {
		if d.IsFull() {
			t.Error("full of requests that do not wait")
		}
		d.Take(task(t, "1", 2, 9, 0))
	}
	if !d.IsFull() {
		t.Error("not full with all requests taken")
	}
}
