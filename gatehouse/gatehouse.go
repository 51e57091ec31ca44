// Package gatehouse: who may do what, by who belongs to whom: see DOC.md.
package gatehouse

import (
	"slices"
	"strings"
	"sync"

	"gatehouse/api"
	"gatehouse/desk"
	"gatehouse/ties"
	"gatehouse/words"
)

// Gate has rules, tuples, and requests.
type Gate struct {
	lock    sync.Mutex
	rules   map[words.Head]words.Way // never changed, so it is read without the lock
	tuples  []string                 // in order; replaced by each Write, never written into
	version int
	desk    *desk.Desk
	closed  bool
}

// Open makes a gate (P3).
func Open(rules []string, workers, queue int) (*Gate, int, api.Errno) {
	if len(rules) > api.MaxRules || !within(workers, 1, api.MaxWorkers) || !within(queue, 1, api.MaxQueue) {
		return nil, 0, api.ErrArg
	}
	ways := map[words.Head]words.Way{}
	for place, text := range rules {
		rule, ok := words.ReadRule(text)
		if !ok {
			return nil, place, api.ErrRule
		}
		if _, twice := ways[rule.Head]; twice {
			return nil, place, api.ErrTwice
		}
		ways[rule.Head] = rule.Way
	}
	return &Gate{rules: ways, desk: desk.New(workers, queue)}, 0, api.OK
}

func within(number, least, most int) bool {
	return least <= number && number <= most
}

// Write changes tuples (P4).
func (g *Gate) Write(batch []string) (int, int, api.Errno) {
	g.lock.Lock()
	defer g.lock.Unlock()
	if g.closed {
		return 0, 0, api.ErrClosed
	}
	if len(batch) > api.MaxBatch {
		return 0, 0, api.ErrFull
	}
	for place, part := range batch {
		if fault := g.faultOf(part); fault != api.OK {
			return 0, place, fault
		}
	}
	after := changed(g.tuples, batch)
	if len(after) > api.MaxTuples {
		return 0, 0, api.ErrFull
	}
	g.tuples = after
	g.version++
	return g.version, 0, api.OK
}

// faultOf tells what is wrong with a part of a batch, if anything is.
func (g *Gate) faultOf(part string) api.Errno {
	if !isSigned(part) {
		return api.ErrTuple
	}
	tuple, ok := words.ReadTuple(part[1:])
	if !ok {
		return api.ErrTuple
	}
	if !g.hasRule(tuple.Node) || !tuple.Subject.IsThing() && !g.hasRule(tuple.Subject) {
		return api.ErrNone
	}
	return api.OK
}

func isSigned(part string) bool {
	return strings.HasPrefix(part, "+") || strings.HasPrefix(part, "-")
}

func (g *Gate) hasRule(node words.Node) bool {
	_, found := g.rules[node.Head()]
	return found
}

// changed gives a new list: the old one stands if the change proves too great. Texts are cloned, for a caller's may be pieces of far greater ones.
func changed(tuples, batch []string) []string {
	after := slices.Clone(tuples)
	for _, part := range batch {
		sign, tuple := part[0], part[1:]
		at, there := slices.BinarySearch(after, tuple)
		switch {
		case sign == '+' && !there:
			after = slices.Insert(after, at, strings.Clone(tuple))
		case sign == '-' && there:
			after = slices.Delete(after, at, at+1)
		}
	}
	return after
}

// Tuples tells all tuples (P4).
func (g *Gate) Tuples() []string {
	return slices.Clone(g.snapshot())
}

// Check tells whether a tuple follows (P5).
func (g *Gate) Check(question string) (bool, api.Errno) {
	asked, ok := words.ReadQuestion(question)
	if !ok || !asked.IsCheck() {
		return false, api.ErrTuple
	}
	if !g.hasRule(asked.Node) {
		return false, api.ErrNone
	}
	return g.now().Walk(asked.Node).Has(asked.Subject), api.OK
}

// Expand tells who stands in a relation (P5).
func (g *Gate) Expand(question string) ([]string, api.Errno) {
	asked, ok := words.ReadQuestion(question)
	if !ok || asked.IsCheck() {
		return nil, api.ErrTuple
	}
	if !g.hasRule(asked.Node) {
		return nil, api.ErrNone
	}
	return g.now().Walk(asked.Node).Who(), api.OK
}

// Cost tells how many nodes a question needs (P6).
func (g *Gate) Cost(question string) (int, api.Errno) {
	asked, fault := g.read(question)
	if fault != api.OK {
		return 0, fault
	}
	return g.now().Walk(asked.Node).Cost(), api.OK
}

// read reads a question of either kind.
func (g *Gate) read(question string) (words.Question, api.Errno) {
	asked, ok := words.ReadQuestion(question)
	if !ok {
		return words.Question{}, api.ErrTuple
	}
	if !g.hasRule(asked.Node) {
		return words.Question{}, api.ErrNone
	}
	return asked, api.OK
}

// now gives the ties as they are. The lock is held for no more than a look at the tuples, so that no question waits for another's answer.
func (g *Gate) now() *ties.Ties {
	return ties.Of(g.rules, g.snapshot())
}

// snapshot is only to be read.
func (g *Gate) snapshot() []string {
	g.lock.Lock()
	defer g.lock.Unlock()
	return g.tuples
}
