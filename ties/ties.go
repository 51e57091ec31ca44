// Package ties tells, by rules and tuples, who stands in a node and how many nodes it needs.
package ties

import "gatehouse/words"

// Ties are rules and tuples in the form in which they are followed. A node is a complex number within: its thing's number, and its relation's as the imaginary part. No relation has the number 0, so a thing alone is such a number too.
type Ties struct {
	rules     map[words.Head]words.Way
	things    *numbers[words.Node]
	relations *numbers[string]
	users     *numbers[words.Node] // the things that are subjects: nobody else stands anywhere
	subjects  map[complex128][]complex128
	who       map[complex128]crowd
}

// Of makes the ties of rules and of tuples that are right. The rules are read, not changed.
func Of(rules map[words.Head]words.Way, tuples []string) *Ties {
	t := &Ties{
		rules:     rules,
		things:    counted[words.Node](),
		relations: counted(""),
		users:     counted[words.Node](),
		subjects:  map[complex128][]complex128{},
		who:       map[complex128]crowd{},
	}
	for _, text := range tuples {
		if tuple, ok := words.ReadTuple(text); ok {
			t.add(tuple)
		}
	}
	return t
}

// add lets a subject that is a thing stand in itself, so that it can be asked like a node who stands in it.
func (t *Ties) add(tuple words.Tuple) {
	node, subject := t.node(tuple.Node), t.node(tuple.Subject)
	t.subjects[node] = append(t.subjects[node], subject)
	if isThing(subject) {
		t.who[subject] = only(t.users.number(tuple.Subject))
	}
}

func (t *Ties) node(of words.Node) complex128 {
	thing, relation := t.things.number(of.Thing()), t.relations.number(of.Relation)
	return complex(float64(thing), float64(relation))
}

func isThing(node complex128) bool {
	return imag(node) == 0
}

// beside is the node of another relation to the same thing.
func (t *Ties) beside(node complex128, relation string) complex128 {
	return complex(real(node), float64(t.relations.number(relation)))
}

// way is that of the node's rule. Nobody stands in any of no parts, so that is the way where there is no rule.
func (t *Ties) way(node complex128) words.Way {
	thing, relation := t.things.values[int(real(node))], t.relations.values[int(imag(node))]
	way, found := t.rules[words.Head{Kind: thing.Kind, Relation: relation}]
	if !found {
		return words.Way{Is: words.Any}
	}
	return way
}

// named tells the nodes, and of the node's own tuples the things too, that are named in telling who stands in a node by a way.
func (t *Ties) named(node complex128, way words.Way) []complex128 {
	switch way.Is {
	case words.This:
		return t.subjects[node]
	case words.Same:
		return []complex128{t.beside(node, way.Relation)}
	case words.Through:
		return t.through(node, way)
	}
	var names []complex128
	for _, part := range way.Parts {
		names = append(names, t.named(node, part)...)
	}
	return names
}

func (t *Ties) through(node complex128, way words.Way) []complex128 {
	var names []complex128
	for _, subject := range t.subjects[t.beside(node, way.Over)] {
		if isThing(subject) {
			names = append(names, t.beside(subject, way.Relation))
		}
	}
	return names
}

// names tells the nodes alone that are named in telling who stands in a node.
func (t *Ties) names(node complex128) []complex128 {
	var nodes []complex128
	for _, name := range t.named(node, t.way(node)) {
		if !isThing(name) {
			nodes = append(nodes, name)
		}
	}
	return nodes
}
