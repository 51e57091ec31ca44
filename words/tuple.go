package words

import "strings"

// A Head is what a rule is for: a relation of the things of a kind.
type Head struct {
	Kind, Relation string
}

// A Node is a thing and a relation; a thing alone is a Node without a relation.
type Node struct {
	Kind, Name, Relation string
}

// A Tuple says that its subject, a node or a thing alone, stands in its node.
type Tuple struct {
	Node, Subject Node
}

// Head is what a rule must be for to be the node's.
func (n Node) Head() Head {
	return Head{Kind: n.Kind, Relation: n.Relation}
}

// IsThing tells whether there is no relation.
func (n Node) IsThing() bool {
	return n.Relation == ""
}

// Thing is the node's thing alone.
func (n Node) Thing() Node {
	return Node{Kind: n.Kind, Name: n.Name}
}

// ThingText is the node's thing as it is written.
func (n Node) ThingText() string {
	return n.Kind + ":" + n.Name
}

func (n Node) clone() Node {
	return Node{Kind: strings.Clone(n.Kind), Name: strings.Clone(n.Name), Relation: strings.Clone(n.Relation)}
}

// ReadTuple reads a tuple; false if the text is none. The names are pieces of the text.
func ReadTuple(text string) (Tuple, bool) {
	r := reader{rest: text}
	node := r.node()
	r.must("@")
	subject := r.subject()
	if !r.ended() {
		return Tuple{}, false
	}
	return Tuple{Node: node, Subject: subject}, true
}

func (r *reader) thing() Node {
	kind := r.name()
	r.must(":")
	return Node{Kind: kind, Name: r.name()}
}

func (r *reader) node() Node {
	node := r.thing()
	r.must("#")
	node.Relation = r.name()
	return node
}

func (r *reader) subject() Node {
	subject := r.thing()
	if r.sees("#") {
		subject.Relation = r.name()
	}
	return subject
}
