package gatehouse_test

import (
	"fmt"
	"math"
	"slices"
	"strings"
	"testing"

	"gatehouse/api"
	"gatehouse/gatehouse"
)

// exampleFor has the example's tuples: group:a#member costs 2, group:c#member 1, doc:1#reader 4, doc:2#reader 6.
func exampleFor(t *testing.T, workers, queue int) *gatehouse.Gate {
	t.Helper()
	g := openedFor(t, workers, queue, exampleRules...)
	for i, tuple := range exampleTuples {
		written(t, g, i+1, "+"+tuple)
	}
	return g
}

func submits(t *testing.T, g *gatehouse.Gate, question string, budget, until, want int) {
	t.Helper()
	if id, e := g.Submit(question, budget, until); id != want || e != api.OK {
		t.Errorf("Submit(%q, %d, %d) = %d, %d, want %d", question, budget, until, id, e, want)
	}
}

func refusedSubmit(t *testing.T, g *gatehouse.Gate, question string, budget, until int, want api.Errno) {
	t.Helper()
	if id, e := g.Submit(question, budget, until); id != 0 || e != want {
		t.Errorf("Submit(%.80q, %d, %d) = %d, %d, want %d", question, budget, until, id, e, want)
	}
}

func steps(t *testing.T, g *gatehouse.Gate, workers ...int) {
	t.Helper()
	for _, worker := range workers {
		if e := g.Step(worker); e != api.OK {
			t.Errorf("Step(%d) = %d", worker, e)
		}
	}
}

func refusedStep(t *testing.T, g *gatehouse.Gate, worker int, want api.Errno) {
	t.Helper()
	if e := g.Step(worker); e != want {
		t.Errorf("Step(%d) = %d, want %d", worker, e, want)
	}
}

// polls holds what became of all requests against words as "waiting", "working 2", "done 2 user:x user:y", "done 4 allowed".
func polls(t *testing.T, g *gatehouse.Gate, want ...string) {
	t.Helper()
	for at, words := range want {
		if got := told(g.Poll(at + 1)); got != words {
			t.Errorf("Poll(%d): %s, want %s", at+1, got, words)
		}
	}
	for _, id := range []int{len(want) + 1, len(want) + 2, 31, 0, -1, math.MinInt, math.MaxInt} {
		if got := g.Poll(id); got.Is != api.Unknown || got.Steps != 0 || got.Allowed || len(got.Users) > 0 {
			t.Errorf("Poll(%d) = %+v, want Unknown", id, got)
		}
	}
}

func told(state api.State) string {
	words := []string{[]string{"unknown", "waiting", "working", "done", "budget", "late", "cancelled"}[state.Is]}
	if state.Steps != 0 {
		words = append(words, fmt.Sprint(state.Steps))
	}
	if state.Allowed {
		words = append(words, "allowed")
	}
	return strings.Join(append(words, state.Users...), " ")
}

func cancels(t *testing.T, g *gatehouse.Gate, id int, want bool) {
	t.Helper()
	if got := g.Cancel(id); got != want {
		t.Errorf("Cancel(%d) = %v, want %v", id, got, want)
	}
}

func TestP7P8P10Example(t *testing.T) {
	g := exampleFor(t, 1, 1)
	submits(t, g, "doc:2#reader@user:x", 6, 10, 1)
	for done := range 6 {
		polls(t, g, strings.TrimSuffix(fmt.Sprintf("%s %d", []string{"waiting", "working"}[min(1, done)], done), " 0"))
		steps(t, g, 0)
	}
	polls(t, g, "done 6 allowed")
	submits(t, g, "doc:2#reader@user:x", 5, 10, 2)
	steps(t, g, 0, 0, 0, 0)
	polls(t, g, "done 6 allowed", "working 4")
	steps(t, g, 0)
	polls(t, g, "done 6 allowed", "budget 5")
	steps(t, g, 0, 0, 0)
	polls(t, g, "done 6 allowed", "budget 5")
}

func TestP7Numbers(t *testing.T) {
	g := exampleFor(t, 1, 6)
	for _, budget := range []int{math.MinInt, -1, 0, api.MaxNumber + 1, math.MaxInt} {
		refusedSubmit(t, g, "group:a#member", budget, 5, api.ErrArg)
	}
	for _, until := range []int{math.MinInt, -1, api.MaxNumber + 1, math.MaxInt} {
		refusedSubmit(t, g, "group:a#member", 5, until, api.ErrArg)
	}
	polls(t, g)
	submits(t, g, "group:a#member", 1, 0, 1)
	submits(t, g, "group:a#member", 1, 1, 2)
	submits(t, g, "group:a#member", api.MaxNumber, api.MaxNumber, 3)
	polls(t, g, "late", "waiting", "waiting")
	steps(t, g, 0, 0, 0)
	polls(t, g, "late", "budget 1", "done 2 user:x")
}

func TestP7WhatIsNoQuestion(t *testing.T) {
	g := openedFor(t, 1, 1, "a#b=this", "d#e=b")
	for _, text := range []string{
		"", "a", "a:b", "a:b#", "a:b@c:d", "a:b#b@", "a:b#b@c", "a:b#b@c:d#", "a:b#b@c:d@e:f", "+a:b#b", "+a:b#b@c:d", " a:b#b", "a:b#b ", "a:b#b@c:d\n",
		"123456789:b#b", "a:b#b@c:123456789", "a:\xff#b", "a:b#b@c:\xc3", "a#b=this", "a:b#b@a:b#b", "x:b#b@a:b#b", "a:b#none@", strings.Repeat("a", 1000000), "a:b#b@c:" + strings.Repeat("é", 1000000),
	} {
		refusedSubmit(t, g, text, 1, 1, api.ErrTuple)
		refusedSubmit(t, g, text, 1, 0, api.ErrTuple)
	}
	for _, node := range []string{"a:b#e", "d:b#b", "x:b#b", "A:b#b", "a:b#this", "b:1#a"} {
		refusedSubmit(t, g, node, 1, 1, api.ErrNone)
		refusedSubmit(t, g, node+"@c:d", 1, 0, api.ErrNone)
	}
	polls(t, g)
	submits(t, g, "a:b#b", 1, 1, 1)
}

// One that is late at once has a number, but no place; one that is worked on has none any more.
func TestP7TheQueue(t *testing.T) {
	for queue := 1; queue <= api.MaxQueue; queue++ {
		g := exampleFor(t, 2, queue)
		want := []string{}
		for i := range queue {
			submits(t, g, "doc:2#reader", 9, 0, 2*i+1)
			submits(t, g, fmt.Sprintf("doc:%d#reader", i+2), 9, 9, 2*i+2)
			want = append(want, "late", "waiting")
		}
		refusedSubmit(t, g, "doc:2#reader", 9, 9, api.ErrFull)
		refusedSubmit(t, g, "doc:2#reader", 9, 0, api.ErrFull)
		polls(t, g, want...)
		steps(t, g, 1)
		want[1] = "working 1"
		polls(t, g, want...)
		submits(t, g, "doc:9#reader", 9, 9, 2*queue+1)
		refusedSubmit(t, g, "doc:2#reader", 9, 9, api.ErrFull)
		cancels(t, g, 2*queue+1, true)
		submits(t, g, "doc:9#reader", 9, 1, 2*queue+2)
		refusedSubmit(t, g, "doc:2#reader", 9, 9, api.ErrFull)
		g.Tick()
		submits(t, g, "doc:9#reader", 9, 9, 2*queue+3)
		refusedSubmit(t, g, "doc:2#reader", 9, 9, api.ErrFull)
		polls(t, g, append(want, "cancelled", "late", "waiting")...)
	}
}

// All that were taken count, whatever became of them.
func TestP7HowManyRequestsThereMayBe(t *testing.T) {
	g := exampleFor(t, 1, 6)
	for i := range 30 {
		submits(t, g, "group:c#member", 1, 5*(i%3), i+1)
		if i%3 == 1 {
			steps(t, g, 0)
		} else if i%3 == 2 {
			cancels(t, g, i+1, true)
		}
	}
	want := slices.Repeat([]string{"late", "done 1", "cancelled"}, 10)
	for range 2 {
		polls(t, g, want...)
		refusedSubmit(t, g, "group:c#member", 1, 9, api.ErrFull)
		refusedSubmit(t, g, "group:c#member", 1, 0, api.ErrFull)
		g.Tick()
	}
}

func TestP7P8TheErrorNamedFirst(t *testing.T) {
	g := exampleFor(t, 1, 1)
	submits(t, g, "group:a#member", 9, 9, 1)
	refusedSubmit(t, g, "", 0, 1, api.ErrArg)
	refusedSubmit(t, g, "user:x#member", 1, -1, api.ErrArg)
	refusedSubmit(t, g, "user:x#member@", 1, 1, api.ErrTuple)
	refusedSubmit(t, g, "", 1, 1, api.ErrTuple)
	refusedSubmit(t, g, "user:x#member", 1, 1, api.ErrNone)
	refusedSubmit(t, g, "group:a#member", 1, 1, api.ErrFull)
	refusedStep(t, g, -1, api.ErrArg)
	g.Close()
	refusedSubmit(t, g, "", 0, -1, api.ErrClosed)
	refusedSubmit(t, g, "user:x#member", 1, 1, api.ErrClosed)
	refusedSubmit(t, g, "group:a#member", 1, 1, api.ErrClosed)
	refusedStep(t, g, -1, api.ErrClosed)
	refusedStep(t, g, 0, api.ErrClosed)
}

func TestP8WhoIsAWorker(t *testing.T) {
	for workers := 1; workers <= api.MaxWorkers; workers++ {
		g := exampleFor(t, workers, 6)
		submits(t, g, "doc:2#reader", 9, 9, 1)
		for _, worker := range []int{math.MinInt, -1, workers, workers + 1, 1 << 32, math.MaxInt} {
			refusedStep(t, g, worker, api.ErrArg)
		}
		polls(t, g, "waiting")
		steps(t, g, workers-1)
		polls(t, g, "working 1")
		for worker := range workers - 1 {
			steps(t, g, worker, worker)
		}
		polls(t, g, "working 1")
	}
}

// A worker takes the eldest request whose node nobody else has; a check and an expansion may be of one node.
func TestP8WhichRequestIsTaken(t *testing.T) {
	g := exampleFor(t, 3, 6)
	steps(t, g, 0, 1, 2)
	submits(t, g, "doc:1#reader", 9, 9, 1)
	submits(t, g, "doc:1#reader@user:x", 9, 9, 2)
	submits(t, g, "doc:1#owner", 9, 9, 3)
	submits(t, g, "doc:2#reader@user:z", 9, 9, 4)
	submits(t, g, "doc:1#reader@user:y", 9, 9, 5)
	submits(t, g, "group:a#member", 9, 9, 6)
	steps(t, g, 2)
	polls(t, g, "working 1", "waiting", "waiting", "waiting", "waiting", "waiting")
	steps(t, g, 0)
	polls(t, g, "working 1", "waiting", "done 1", "waiting", "waiting", "waiting")
	steps(t, g, 0, 1)
	polls(t, g, "working 1", "waiting", "done 1", "working 1", "waiting", "working 1")
	steps(t, g, 1, 1)
	polls(t, g, "working 1", "waiting", "done 1", "working 1", "waiting", "done 2 user:x")
	steps(t, g, 2, 2, 2)
	polls(t, g, "done 4 user:x", "waiting", "done 1", "working 1", "waiting", "done 2 user:x")
	steps(t, g, 1, 2)
	polls(t, g, "done 4 user:x", "working 1", "done 1", "working 1", "waiting", "done 2 user:x")
	steps(t, g, 0, 0, 0, 0, 0)
	polls(t, g, "done 4 user:x", "working 1", "done 1", "done 6", "waiting", "done 2 user:x")
	steps(t, g, 1, 1, 1, 2, 2, 2, 2)
	polls(t, g, "done 4 user:x", "done 4 allowed", "done 1", "done 6", "done 4", "done 2 user:x")
	steps(t, g, 0, 1, 2)
	polls(t, g, "done 4 user:x", "done 4 allowed", "done 1", "done 6", "done 4", "done 2 user:x")
}

// That the steps are all that it costs goes ahead of that they are all of the budget.
func TestP8Budgets(t *testing.T) {
	for budget := 1; budget <= 8; budget++ {
		g := exampleFor(t, 1, 1)
		submits(t, g, "doc:2#reader", budget, 9, 1)
		steps(t, g, slices.Repeat([]int{0}, 9)...)
		if budget < 6 {
			polls(t, g, fmt.Sprintf("budget %d", budget))
		} else {
			polls(t, g, "done 6 user:x user:y")
		}
	}
	g := exampleFor(t, 1, 2)
	submits(t, g, "group:c#member@user:x", 1, 9, 1)
	submits(t, g, "group:a#member@user:x", 1, 9, 2)
	steps(t, g, 0)
	polls(t, g, "done 1", "waiting")
	steps(t, g, 0)
	polls(t, g, "done 1", "budget 1")
}

func TestP9TheClock(t *testing.T) {
	g := exampleFor(t, 1, 6)
	submits(t, g, "doc:2#reader", 9, 2, 1)
	submits(t, g, "doc:1#reader", 9, 1, 2)
	submits(t, g, "doc:1#reader", 9, 2, 3)
	submits(t, g, "doc:1#reader", 9, 3, 4)
	steps(t, g, 0, 0)
	g.Tick()
	polls(t, g, "working 2", "late", "waiting", "waiting")
	submits(t, g, "doc:2#owner", 9, 0, 5)
	submits(t, g, "doc:2#owner", 9, 1, 6)
	submits(t, g, "doc:2#owner", 9, 2, 7)
	polls(t, g, "working 2", "late", "waiting", "waiting", "late", "late", "waiting")
	steps(t, g, 0)
	g.Tick()
	polls(t, g, "late 3", "late", "late", "waiting", "late", "late", "late")
	steps(t, g, 0, 0, 0, 0)
	polls(t, g, "late 3", "late", "late", "done 4 user:x", "late", "late", "late")
	submits(t, g, "group:a#member", 1, 3, 8)
	steps(t, g, 0)
	for range 3 {
		g.Tick()
		polls(t, g, "late 3", "late", "late", "done 4 user:x", "late", "late", "late", "budget 1")
	}
}

// Where the last step comes ahead of the tick it is done; where the tick comes ahead it is late.
func TestP9TheLastStepAndTheTick(t *testing.T) {
	g := exampleFor(t, 2, 2)
	submits(t, g, "group:a#member", 9, 1, 1)
	submits(t, g, "group:b#member", 9, 1, 2)
	steps(t, g, 0, 1, 0)
	g.Tick()
	polls(t, g, "done 2 user:x", "late 1")
	steps(t, g, 0, 1)
	cancels(t, g, 1, false)
	cancels(t, g, 2, false)
	polls(t, g, "done 2 user:x", "late 1")
}

func TestP9Cancel(t *testing.T) {
	g := exampleFor(t, 2, 6)
	for _, id := range []int{math.MinInt, -1, 0, 1, 2, 30, 31, math.MaxInt} {
		cancels(t, g, id, false)
	}
	submits(t, g, "doc:1#reader", 9, 9, 1)
	submits(t, g, "doc:1#reader", 9, 9, 2)
	submits(t, g, "doc:1#reader", 9, 9, 3)
	submits(t, g, "group:a#member", 1, 9, 4)
	submits(t, g, "group:c#member", 1, 9, 5)
	submits(t, g, "group:c#member", 1, 0, 6)
	steps(t, g, 0, 1, 1)
	polls(t, g, "working 1", "waiting", "waiting", "budget 1", "done 1", "late")
	for id := 4; id <= 8; id++ {
		cancels(t, g, id, false)
	}
	cancels(t, g, 2, true)
	cancels(t, g, 2, false)
	steps(t, g, 1)
	polls(t, g, "working 1", "cancelled", "waiting", "budget 1", "done 1", "late")
	cancels(t, g, 1, true)
	cancels(t, g, 1, false)
	steps(t, g, 1, 0)
	polls(t, g, "cancelled 1", "cancelled", "working 1", "budget 1", "done 1", "late")
	steps(t, g, 1, 1, 1)
	polls(t, g, "cancelled 1", "cancelled", "done 4 user:x", "budget 1", "done 1", "late")
}

func TestP9Close(t *testing.T) {
	g := exampleFor(t, 2, 6)
	submits(t, g, "group:c#member", 1, 9, 1)
	submits(t, g, "doc:1#reader@user:x", 9, 9, 2)
	submits(t, g, "group:a#member@user:x", 9, 9, 3)
	submits(t, g, "doc:1#reader@user:x", 9, 1, 4)
	submits(t, g, "group:a#member", 1, 9, 5)
	submits(t, g, "group:a#member", 1, 0, 6)
	steps(t, g, 0, 0, 1, 1, 1)
	polls(t, g, "done 1", "working 1", "done 2 allowed", "waiting", "budget 1", "late")
	for range 2 {
		g.Close()
		polls(t, g, "done 1", "cancelled 1", "done 2 allowed", "cancelled", "budget 1", "late")
		refusedStep(t, g, 0, api.ErrClosed)
		refusedStep(t, g, 7, api.ErrClosed)
		refusedSubmit(t, g, "group:c#member", 1, 9, api.ErrClosed)
		refusedWrite(t, g, nil, 0, api.ErrClosed)
		g.Tick()
		for id := range 8 {
			cancels(t, g, id, false)
		}
		polls(t, g, "done 1", "cancelled 1", "done 2 allowed", "cancelled", "budget 1", "late")
		expands(t, g, "doc:1#reader", "user:x")
		checks(t, g, "doc:1#reader@user:x", true)
		costs(t, g, "doc:1#reader@user:x", 4)
		holds(t, g, slices.Sorted(slices.Values(exampleTuples))...)
	}
	unasked := opened(t)
	unasked.Close()
	polls(t, unasked)
}

// P10: answers are told of what is done alone: of a check whether, of an expansion who.
func TestP10WhatIsTold(t *testing.T) {
	g := exampleFor(t, 1, 6)
	submits(t, g, "group:b#member@user:x", 2, 9, 1)
	submits(t, g, "group:b#member@user:y", 2, 9, 2)
	submits(t, g, "group:b#member", 2, 9, 3)
	submits(t, g, "group:c#member", 2, 9, 4)
	submits(t, g, "group:b#member@user:x", 1, 9, 5)
	submits(t, g, "group:b#member", 1, 9, 6)
	steps(t, g, 0, 0, 0, 0, 0, 0, 0, 0, 0)
	polls(t, g, "done 2 allowed", "done 2", "done 2 user:x", "done 1", "budget 1", "budget 1")
	for id := range 7 {
		if got := g.Poll(id); len(got.Users) > 0 != (id == 3) || got.Allowed != (id == 1) {
			t.Errorf("Poll(%d) = %+v", id, got)
		}
	}
}

// As many steps as the greatest question costs, and no more: more than ten thousand.
func TestP11ManySteps(t *testing.T) {
	g, cost := manyNodes(t)
	for i, budget := range []int{cost, cost - 1} {
		submits(t, g, "k:0#a", budget, 9, i+1)
		steps(t, g, make([]int, budget-1)...)
		if got := g.Poll(i + 1); got.Is != api.Working || got.Steps != budget-1 {
			t.Errorf("ahead of the last step: %+v", got)
		}
		steps(t, g, 0)
	}
	polls(t, g, fmt.Sprintf("done %d u:x", cost), fmt.Sprintf("budget %d", cost-1))
}

// P11: what is written behind changes neither the answer nor what it costs.
func TestP11LaterTuples(t *testing.T) {
	g := exampleFor(t, 2, 6)
	submits(t, g, "doc:1#reader", 4, 9, 1)
	submits(t, g, "doc:2#reader@user:x", 6, 9, 2)
	written(t, g, 7, "-group:b#member@user:x", "+group:a#member@user:z", "+doc:1#parent@doc:7", "-doc:2#parent@doc:1")
	submits(t, g, "doc:1#reader", 6, 9, 3)
	submits(t, g, "doc:2#reader@user:x", 6, 9, 4)
	steps(t, g, 0, 1, 0)
	written(t, g, 8, "-group:a#member@user:z", "-doc:1#reader@group:a#member")
	submits(t, g, "doc:1#reader", 6, 9, 5)
	steps(t, g, 0, 0, 1, 1, 1, 1, 1)
	polls(t, g, "done 4 user:x", "done 6 allowed", "waiting", "waiting", "waiting")
	steps(t, g, 0, 0, 0, 0, 0, 0, 1, 1)
	polls(t, g, "done 4 user:x", "done 6 allowed", "done 6 user:z", "done 2", "waiting")
	written(t, g, 9, "+doc:1#owner@user:q")
	g.Tick()
	steps(t, g, 0, 0, 0, 0)
	polls(t, g, "done 4 user:x", "done 6 allowed", "done 6 user:z", "done 2", "done 4")
}
