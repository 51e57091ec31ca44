// Package desk has the requests of a gate, the workers who do them step by step, and the clock.
package desk

import (
	"slices"

	"gatehouse/api"
	"gatehouse/words"
)

// A Desk is not for several goroutines at once: whoever has it has a lock too.
type Desk struct {
	queue   int
	clock   int
	taken   []*request // number 1 stands in place 0
	workers []*request // nil for a worker who has none
}

// New makes a desk with so many workers and so many places in the queue.
func New(workers, queue int) *Desk {
	return &Desk{queue: queue, workers: make([]*request, workers)}
}

// IsFull tells whether no request can be taken now.
func (d *Desk) IsFull() bool {
	return len(d.taken) >= api.MaxRequests || d.waiting() >= d.queue
}

func (d *Desk) waiting() int {
	count := 0
	for _, request := range d.taken {
		if request.waits() {
			count++
		}
	}
	return count
}

// Take takes a request and tells its number. The task is kept.
func (d *Desk) Take(task Task) int {
	taken := &request{State: api.State{Is: api.Waiting}, task: &task}
	taken.endIfLate(d.clock)
	d.taken = append(d.taken, taken)
	return len(d.taken)
}

// HasWorker tells whether there is a worker of that number.
func (d *Desk) HasWorker(worker int) bool {
	return 0 <= worker && worker < len(d.workers)
}

// Step lets a worker do a step, of a request that waits if he has none.
func (d *Desk) Step(worker int) {
	defer d.dismiss()
	if d.workers[worker] == nil {
		d.give(worker)
	}
	if had := d.workers[worker]; had != nil {
		had.step()
	}
}

// give gives the worker the eldest request that may be worked on, if there is one.
func (d *Desk) give(worker int) {
	for _, request := range d.taken {
		if request.waits() && !d.isWorkedOn(request.task.Question.Node) {
			request.Is = api.Working
			d.workers[worker] = request
			return
		}
	}
}

func (d *Desk) isWorkedOn(node words.Node) bool {
	return slices.ContainsFunc(d.workers, func(had *request) bool {
		return had != nil && had.task.Question.Node == node
	})
}

// dismiss takes the requests that have ended from their workers. Each call that may end one defers it, so that no worker is left with one.
func (d *Desk) dismiss() {
	for worker, had := range d.workers {
		if had != nil && had.hasEnded() {
			d.workers[worker] = nil
		}
	}
}

// Tick moves the clock, and ends what is late by it.
func (d *Desk) Tick() {
	defer d.dismiss()
	d.clock = min(d.clock+1, api.MaxNumber)
	for _, request := range d.taken {
		request.endIfLate(d.clock)
	}
}

// Cancel tells whether there was such a request that had not ended.
func (d *Desk) Cancel(id int) bool {
	defer d.dismiss()
	if !d.has(id) || d.taken[id-1].hasEnded() {
		return false
	}
	d.taken[id-1].end(api.Cancelled)
	return true
}

// CancelAll cancels each request that has not ended.
func (d *Desk) CancelAll() {
	for number := range d.taken {
		d.Cancel(number + 1)
	}
}

func (d *Desk) has(id int) bool {
	return 1 <= id && id <= len(d.taken)
}

// State tells what became of a request. Its list is new memory.
func (d *Desk) State(id int) api.State {
	if !d.has(id) {
		return api.State{}
	}
	state := d.taken[id-1].State
	state.Users = slices.Clone(state.Users)
	return state
}
