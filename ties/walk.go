package ties

import (
	"slices"

	"gatehouse/words"
)

// A Walk goes through the nodes that a node needs, one at each step: itself, and on from there whatever is named.
type Walk struct {
	ties *Ties
	met  *numbers[complex128]
	gone int // through so many of those that were met
}

// Walk is one of which no step is done. The steps number what they meet in the ties, so ties are not for several goroutines at once.
func (t *Ties) Walk(from words.Node) *Walk {
	return &Walk{ties: t, met: counted(t.node(from))}
}

// Step does nothing behind the end.
func (w *Walk) Step() {
	if w.Ended() {
		return
	}
	for _, name := range w.ties.names(w.met.values[w.gone]) {
		w.met.number(name)
	}
	w.gone++
}

// Ended tells whether all that the node needs was gone through.
func (w *Walk) Ended() bool {
	return w.gone == len(w.met.values)
}

func (w *Walk) finish() {
	for !w.Ended() {
		w.Step()
	}
}

// Cost tells how many steps the whole walk takes: one for each node that is needed.
func (w *Walk) Cost() int {
	w.finish()
	return w.gone
}

// Who tells the things that stand in the node from which the walk goes, byte by byte in order.
func (w *Walk) Who() []string {
	w.finish()
	w.ties.settle(w.met.values)
	from := w.met.values[0]
	var who []string
	for number, user := range w.ties.users.values {
		if w.ties.who[from].has(number) {
			who = append(who, user.ThingText())
		}
	}
	slices.Sort(who)
	return who
}

// Has tells whether a thing stands in the node from which the walk goes.
func (w *Walk) Has(thing words.Node) bool {
	return slices.Contains(w.Who(), thing.ThingText())
}
