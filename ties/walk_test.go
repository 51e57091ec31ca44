package ties

import (
	"slices"
	"testing"

	"gatehouse/words"
)

var (
	exampleRules  = []string{"group#member=this", "doc#owner=this", "doc#reader=this|owner|parent->reader", "doc#parent=this"}
	exampleTuples = []string{"doc:1#reader@group:a#member", "doc:2#owner@user:y", "doc:2#parent@doc:1", "group:a#member@group:b#member", "group:b#member@group:a#member", "group:b#member@user:x"}
)

// A walk has ended behind as many steps as it costs, not sooner; a step behind that does nothing.
func TestAWalkTakesItsCost(t *testing.T) {
	for from, cost := range map[words.Node]int{
		node("doc", "2", "reader"): 6, node("doc", "1", "reader"): 4, node("group", "a", "member"): 2, node("group", "c", "member"): 1, node("no", "1", "rule"): 1,
	} {
		walk := tied(t, exampleRules, exampleTuples).Walk(from)
		for steps := range cost {
			if walk.Ended() {
				t.Errorf("the walk from %v has ended behind %d steps", from, steps)
			}
			walk.Step()
		}
		if !walk.Ended() {
			t.Errorf("the walk from %v has not ended behind %d steps", from, cost)
		}
		walk.Step()
		if got := walk.Cost(); got != cost || !walk.Ended() {
			t.Errorf("the walk from %v costs %d, want %d", from, got, cost)
		}
	}
}

// The answers are the same, however many steps were done before.
func TestAWalkMayBeAskedAtAnyStep(t *testing.T) {
	for steps := range 8 {
		for _, ask := range []func(*Walk) bool{
			func(walk *Walk) bool { return walk.Cost() == 6 },
			func(walk *Walk) bool { return slices.Equal(walk.Who(), []string{"user:x", "user:y"}) },
			func(walk *Walk) bool { return walk.Has(node("user", "x", "")) },
			func(walk *Walk) bool { return !walk.Has(node("group", "a", "")) },
		} {
			walk := tied(t, exampleRules, exampleTuples).Walk(node("doc", "2", "reader"))
			for range steps {
				walk.Step()
			}
			if !ask(walk) || !ask(walk) {
				t.Errorf("behind %d steps an answer is wrong", steps)
			}
		}
	}
}
