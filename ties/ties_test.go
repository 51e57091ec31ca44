package ties

import (
	"slices"
	"testing"

	"gatehouse/words"
)

func tied(t *testing.T, rules, tuples []string) *Ties {
	t.Helper()
	ways := map[words.Head]words.Way{}
	for _, text := range rules {
		rule, ok := words.ReadRule(text)
		if !ok {
			t.Fatalf("%q is no rule", text)
		}
		ways[rule.Head] = rule.Way
	}
	return Of(ways, tuples)
}

func node(kind, name, relation string) words.Node {
	return words.Node{Kind: kind, Name: name, Relation: relation}
}

// A node is a complex number: nodes of one thing share the real part, nodes of one relation the other.
func TestNodesAsNumbers(t *testing.T) {
	ties := tied(t, nil, nil)
	one, again := ties.node(node("k", "1", "a")), ties.node(node("k", "1", "a"))
	relation, thing := ties.node(node("k", "1", "b")), ties.node(node("k", "2", "a"))
	if one != again || one == relation || one == thing || relation == thing {
		t.Errorf("the nodes are %v, %v, %v, %v", one, again, relation, thing)
	}
	if real(one) != real(relation) || imag(one) != imag(thing) {
		t.Errorf("%v and %v are of one thing, %v and %v of one relation", one, relation, one, thing)
	}
	if ties.beside(one, "b") != relation || ties.beside(relation, "a") != one {
		t.Errorf("beside %v stands %v", one, ties.beside(one, "b"))
	}
	alone := ties.node(node("k", "1", ""))
	if !isThing(alone) || isThing(one) || real(alone) != real(one) {
		t.Errorf("the thing alone is %v", alone)
	}
}

func TestNumbersAreGivenOnce(t *testing.T) {
	n := counted("a", "b", "a")
	for want, value := range []string{"a", "b", "c", "d"} {
		if n.number(value) != want || n.number(value) != want {
			t.Errorf("the number of %s is %d, want %d", value, n.number(value), want)
		}
	}
	if !slices.Equal(n.values, []string{"a", "b", "c", "d"}) {
		t.Errorf("the values are %q", n.values)
	}
}

// What was asked before does not change what is told.
func TestAskedInAnyOrder(t *testing.T) {
	rules := []string{"k#a=this|b", "k#b=this&c", "k#c=p->a", "k#p=this"}
	tuples := []string{"k:1#a@k:2#b", "k:2#a@u:x", "k:2#b@u:x", "k:2#p@k:2", "k:1#p@k:1", "k:1#b@u:y"}
	wants := map[words.Node][]string{
		node("k", "1", "a"): {"u:x"}, node("k", "2", "b"): {"u:x"}, node("k", "1", "c"): {"u:x"},
		node("k", "1", "b"): nil, node("k", "2", "c"): {"u:x"}, node("k", "3", "a"): nil,
	}
	for range 20 {
		ties := tied(t, rules, tuples)
		for asked, want := range wants {
			if got := ties.Walk(asked).Who(); !slices.Equal(got, want) {
				t.Errorf("in %v stand %q, want %q", asked, got, want)
			}
			if got := ties.Walk(asked).Has(node("u", "x", "")); got != slices.Contains(want, "u:x") {
				t.Errorf("u:x stands in %v: %v", asked, got)
			}
		}
	}
}

// The tuples are only read: they may be those of a gate.
func TestTuplesAreOnlyRead(t *testing.T) {
	tuples := []string{"k:2#a@u:y", "k:1#a@k:2#a", "k:1#a@u:x", "spare"}
	ties := tied(t, []string{"k#a=this"}, tuples[:3])
	if got := ties.Walk(node("k", "1", "a")).Who(); !slices.Equal(got, []string{"u:x", "u:y"}) {
		t.Errorf("there stand %q", got)
	}
	if got := ties.Walk(node("k", "1", "a")).Cost(); got != 2 {
		t.Errorf("the cost is %d", got)
	}
	if !slices.Equal(tuples, []string{"k:2#a@u:y", "k:1#a@k:2#a", "k:1#a@u:x", "spare"}) {
		t.Errorf("the tuples are now %q", tuples)
	}
}

// A node that has no rule has nobody, and needs itself alone, even if there were tuples of it.
func TestNodesWithoutARule(t *testing.T) {
	ties := tied(t, []string{"k#a=this|b"}, []string{"k:1#b@u:x", "k:1#b@k:2#a", "k:2#a@u:y"})
	if got := ties.Walk(node("k", "1", "a")).Who(); len(got) != 0 {
		t.Errorf("there stand %q", got)
	}
	if all, alone := ties.Walk(node("k", "1", "a")).Cost(), ties.Walk(node("k", "1", "b")).Cost(); all != 2 || alone != 1 {
		t.Errorf("the costs are %d and %d", all, alone)
	}
}
