package desk

import (
	"gatehouse/api"
	"gatehouse/ties"
	"gatehouse/words"
)

// A Task is what a request asks for. The walk goes from the question's node, by the tuples that the request has.
type Task struct {
	Question      words.Question
	Walk          *ties.Walk
	Budget, Until int
}

// A request has its task only until it has ended: then nothing but its state is asked for any more.
type request struct {
	api.State
	task *Task
}

func (r *request) waits() bool {
	return r.Is == api.Waiting
}

func (r *request) hasEnded() bool {
	return r.task == nil
}

func (r *request) end(is int) {
	r.Is = is
	r.task = nil
}

func (r *request) endIfLate(clock int) {
	if !r.hasEnded() && r.task.Until <= clock {
		r.end(api.Late)
	}
}

// step goes through one of the nodes that the question needs, so the walk has ended behind as many steps as the question costs.
func (r *request) step() {
	r.Steps++
	r.task.Walk.Step()
	switch {
	case r.task.Walk.Ended():
		r.answer()
	case r.Steps == r.task.Budget:
		r.end(api.Budget)
	}
}

func (r *request) answer() {
	if r.task.Question.IsCheck() {
		r.Allowed = r.task.Walk.Has(r.task.Question.Subject)
	} else {
		r.Users = r.task.Walk.Who()
	}
	r.end(api.Done)
}
