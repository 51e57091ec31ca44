package gatehouse

import (
	"gatehouse/api"
	"gatehouse/desk"
	"gatehouse/ties"
	"gatehouse/words"
)

// Submit puts a question to the workers (P7).
func (g *Gate) Submit(question string, budget, until int) (int, api.Errno) {
	g.lock.Lock()
	defer g.lock.Unlock()
	if g.closed {
		return 0, api.ErrClosed
	}
	if !within(budget, 1, api.MaxNumber) || !within(until, 0, api.MaxNumber) {
		return 0, api.ErrArg
	}
	asked, fault := g.read(question)
	if fault != api.OK {
		return 0, fault
	}
	if g.desk.IsFull() {
		return 0, api.ErrFull
	}
	return g.desk.Take(g.task(asked.Clone(), budget, until)), api.OK
}

// task has ties of its own, so that no later tuple touches it. The question must be one that may be kept.
func (g *Gate) task(asked words.Question, budget, until int) desk.Task {
	walk := ties.Of(g.rules, g.tuples).Walk(asked.Node)
	return desk.Task{Question: asked, Walk: walk, Budget: budget, Until: until}
}

// Step lets a worker do a step (P8).
func (g *Gate) Step(worker int) api.Errno {
	g.lock.Lock()
	defer g.lock.Unlock()
	if g.closed {
		return api.ErrClosed
	}
	if !g.desk.HasWorker(worker) {
		return api.ErrArg
	}
	g.desk.Step(worker)
	return api.OK
}

// Tick moves the clock (P9).
func (g *Gate) Tick() {
	g.lock.Lock()
	defer g.lock.Unlock()
	if !g.closed {
		g.desk.Tick()
	}
}

// Cancel cancels a request (P9).
func (g *Gate) Cancel(id int) bool {
	g.lock.Lock()
	defer g.lock.Unlock()
	return g.desk.Cancel(id)
}

// Poll tells what became of a request (P10).
func (g *Gate) Poll(id int) api.State {
	g.lock.Lock()
	defer g.lock.Unlock()
	return g.desk.State(id)
}

// Close closes a gate (P9).
func (g *Gate) Close() {
	g.lock.Lock()
	defer g.lock.Unlock()
	g.desk.CancelAll()
	g.closed = true
}
