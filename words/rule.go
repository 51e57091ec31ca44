package words

import (
	"strings"

	"gatehouse/api"
)

// this is the word for a node's own tuples: in a rule it is never a relation.
const this = "this"

// The kinds of a Way.
const (
	This    = iota // by the node's own tuples
	Same           // by another relation of the same thing
	Through        // by a relation of the things that stand in one of the same thing
	Any            // by one of the parts, or more
	All            // by each of the parts
)

// A Way says how it is told who stands in a node. Over is the relation ahead of an arrow, Relation the one behind it or alone.
type Way struct {
	Is             int
	Over, Relation string
	Parts          []Way
}

// A Rule gives a relation its way.
type Rule struct {
	Head
	Way Way
}

// ReadRule reads a rule; false if the text is none. Nothing of the text is kept in it.
func ReadRule(text string) (Rule, bool) {
	if len(text) > api.MaxRule {
		return Rule{}, false
	}
	r := reader{rest: strings.Clone(text)}
	head := r.head()
	r.must("=")
	way := r.way()
	if !r.ended() {
		return Rule{}, false
	}
	return Rule{Head: head, Way: way}, true
}

func (r *reader) head() Head {
	kind := r.name()
	r.must("#")
	return Head{Kind: kind, Relation: r.relation()}
}

func (r *reader) relation() string {
	name := r.name()
	if name == this {
		r.fail()
	}
	return name
}

// way takes only the mark that it met first: the other one is left over, and the reader fails on it.
func (r *reader) way() Way {
	first := r.one()
	is, mark := Any, "|"
	if strings.HasPrefix(r.rest, "&") {
		is, mark = All, "&"
	}
	parts := []Way{first}
	for r.sees(mark) {
		parts = append(parts, r.one())
	}
	if len(parts) == 1 {
		return first
	}
	return Way{Is: is, Parts: parts}
}

func (r *reader) one() Way {
	if r.sees("(") {
		return r.bracketed()
	}
	name := r.name()
	if name == this {
		return Way{Is: This}
	}
	if r.sees("->") {
		return Way{Is: Through, Over: name, Relation: r.relation()}
	}
	return Way{Is: Same, Relation: name}
}

func (r *reader) bracketed() Way {
	r.open++
	defer func() { r.open-- }()
	if r.open > api.MaxDepth {
		r.fail()
		return Way{}
	}
	way := r.way()
	r.must(")")
	return way
}
