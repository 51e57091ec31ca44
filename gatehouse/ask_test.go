package gatehouse_test

import (
	"fmt"
	"slices"
	"strings"
	"testing"

	"gatehouse/api"
	"gatehouse/gatehouse"
)

// holding opens a gate that has these tuples.
func holding(t *testing.T, rules []string, tuples ...string) *gatehouse.Gate {
	t.Helper()
	g := opened(t, rules...)
	for i, tuple := range tuples {
		written(t, g, i+1, "+"+tuple)
	}
	return g
}

func expands(t *testing.T, g *gatehouse.Gate, node string, want ...string) {
	t.Helper()
	if got, e := g.Expand(node); !slices.Equal(got, want) || e != api.OK {
		t.Errorf("Expand(%q) = %q, %d, want %q", node, got, e, want)
	}
}

func checks(t *testing.T, g *gatehouse.Gate, question string, want bool) {
	t.Helper()
	if got, e := g.Check(question); got != want || e != api.OK {
		t.Errorf("Check(%q) = %v, %d, want %v", question, got, e, want)
	}
}

func costs(t *testing.T, g *gatehouse.Gate, question string, want int) {
	t.Helper()
	if got, e := g.Cost(question); got != want || e != api.OK {
		t.Errorf("Cost(%q) = %d, %d, want %d", question, got, e, want)
	}
}

// refused holds the answers of Check, Expand and Cost against three errors; OK stands for any answer.
func refused(t *testing.T, g *gatehouse.Gate, question string, check, expand, cost api.Errno) {
	t.Helper()
	is, e := g.Check(question)
	if e != check || e != api.OK && is {
		t.Errorf("Check(%.80q) = %v, %d, want %d", question, is, e, check)
	}
	who, e := g.Expand(question)
	if e != expand || e != api.OK && who != nil {
		t.Errorf("Expand(%.80q) = %q, %d, want %d", question, who, e, expand)
	}
	n, e := g.Cost(question)
	if e != cost || e != api.OK && n != 0 {
		t.Errorf("Cost(%.80q) = %d, %d, want %d", question, n, e, cost)
	}
}

var exampleRules = []string{"group#member=this", "doc#owner=this", "doc#reader=this|owner|parent->reader", "doc#parent=this", "doc#editor=reader&this"}

var exampleTuples = []string{
	"group:a#member@group:b#member", "group:b#member@group:a#member", "group:b#member@user:x",
	"doc:1#reader@group:a#member", "doc:2#parent@doc:1", "doc:2#owner@user:y",
}

func example(t *testing.T) *gatehouse.Gate {
	t.Helper()
	return holding(t, exampleRules, exampleTuples...)
}

func TestP5Example(t *testing.T) {
	g := example(t)
	expands(t, g, "group:a#member", "user:x")
	expands(t, g, "doc:2#reader", "user:x", "user:y")
	expands(t, g, "doc:2#parent", "doc:1")
	expands(t, g, "doc:2#editor")
	checks(t, g, "doc:2#reader@group:a", false)
	checks(t, g, "doc:2#reader@user:x", true)
	checks(t, g, "doc:2#editor@user:x", false)
	written(t, g, 7, "+doc:2#editor@user:x")
	expands(t, g, "doc:2#editor", "user:x")
	checks(t, g, "doc:2#editor@user:x", true)
}

func TestP6Example(t *testing.T) {
	g := example(t)
	costs(t, g, "group:a#member", 2)
	costs(t, g, "doc:2#reader", 6)
	costs(t, g, "doc:2#reader@user:x", 6)
	costs(t, g, "doc:2#reader@no:one", 6)
}

// A gate of whose tuples each way below takes others: p leads from k:1 to k:2 and k:3, and to the node k:1#a.
func byWay(t *testing.T, way string) *gatehouse.Gate {
	t.Helper()
	rules := []string{"k#a=this", "k#b=this", "k#c=a", "k#p=this|a", "k#q=a", "k#r=" + way}
	return holding(t, rules,
		"k:1#a@u:x", "k:1#a@u:y", "k:1#b@u:y", "k:1#b@u:z", "k:1#c@u:c", "k:1#r@u:r", "k:1#r@k:1#r", "k:1#r@k:4#b",
		"k:1#p@k:2", "k:1#p@k:3", "k:1#p@k:1#a", "k:1#q@k:2", "k:2#a@u:v", "k:3#b@u:w", "k:4#b@u:s", "k:2#p@k:1", "k:1#b@e:1")
}

func TestP5P6EachWay(t *testing.T) {
	for _, c := range []struct {
		way, who string
		cost     int
	}{
		{"this", "u:r u:s", 2},
		{"a", "u:x u:y", 2},
		{"c", "u:x u:y", 3},
		{"none", "", 2},
		{"none|none2", "", 3},
		{"p", "k:2 k:3 u:x u:y", 3},
		{"p->a", "u:v", 3},
		{"p->b", "u:w", 3},
		{"p->c", "u:v", 5},
		{"p->p", "k:1 u:v", 5},
		{"p->none", "", 3},
		{"none->a", "", 1},
		{"a->a", "", 3},
		{"q->a", "u:v", 2},
		{"c->a", "", 2},
		{"b->a", "", 4},
		{"a|b", "e:1 u:x u:y u:z", 3},
		{"a&b", "u:y", 3},
		{"a&b&none", "", 4},
		{"none&this", "", 3},
		{"a&none&b", "", 4},
		{"a|(b&none)", "u:x u:y", 4},
		{"(a|b)&(none|b)", "e:1 u:y u:z", 4},
		{"a|a|a", "u:x u:y", 2},
		{"a&a", "u:x u:y", 2},
		{"this|a", "u:r u:s u:x u:y", 3},
		{"this&a", "", 3},
		{"r", "", 1},
		{"r|a", "u:x u:y", 2},
		{"r&a", "", 2},
		{"this|r", "u:r u:s", 2},
		{"this&r", "", 2},
		{"p->r", "", 3},
		{"p->r|a", "u:v u:x u:y", 6},
		{"p|p->a", "k:2 k:3 u:v u:x u:y", 5},
		{"p->a&p->b", "", 5},
		{"(p->a|a)&(p->a|b)", "u:v u:y", 5},
		{"(((((a)))))", "u:x u:y", 2},
	} {
		g := byWay(t, c.way)
		expands(t, g, "k:1#r", strings.Fields(c.who)...)
		costs(t, g, "k:1#r", c.cost)
		costs(t, g, "k:1#r@u:x", c.cost)
		for _, thing := range []string{"u:x", "u:y", "u:z", "u:r", "u:s", "u:v", "u:w", "u:c", "k:1", "k:2", "k:3", "e:1", "no:one"} {
			checks(t, g, "k:1#r@"+thing, slices.Contains(strings.Fields(c.who), thing))
		}
	}
}

// A rule is for a kind: the same relation of another kind has another, or none.
func TestP5P6RulesAreOfAKind(t *testing.T) {
	g := holding(t, []string{"k#a=this|p->a", "m#a=b", "m#b=this", "k#p=this"},
		"k:1#p@k:2", "k:1#p@m:1", "k:1#p@n:1", "k:2#a@u:x", "m:1#a@u:y", "m:1#b@u:z")
	expands(t, g, "k:1#a", "u:x", "u:z")
	costs(t, g, "k:1#a", 5)
	expands(t, g, "m:1#a", "u:z")
	costs(t, g, "m:1#a", 2)
}

// Nobody stands anywhere by a circle alone, whichever way it goes.
func TestP5Circles(t *testing.T) {
	g := holding(t, []string{"k#a=b", "k#b=a", "k#c=this&d", "k#d=this|c", "k#e=this|p->e", "k#p=this", "k#f=f", "k#g=this&g"},
		"k:1#a@u:x", "k:1#c@u:x", "k:1#c@u:y", "k:1#d@u:y", "k:1#p@k:2", "k:2#p@k:1", "k:1#e@u:z", "k:3#p@k:3", "k:1#f@u:x", "k:1#g@u:x", "k:1#d@k:2#d", "k:2#d@k:1#d")
	for _, node := range []string{"k:1#a", "k:1#b", "k:3#e", "k:1#f", "k:1#g", "k:2#c"} {
		expands(t, g, node)
		checks(t, g, node+"@u:x", false)
	}
	expands(t, g, "k:1#c", "u:y")
	expands(t, g, "k:1#d", "u:y")
	expands(t, g, "k:2#d", "u:y")
	expands(t, g, "k:1#e", "u:z")
	expands(t, g, "k:2#e", "u:z")
	for node, cost := range map[string]int{"k:1#a": 2, "k:1#b": 2, "k:3#e": 1, "k:1#f": 1, "k:1#g": 1, "k:1#e": 2, "k:2#e": 2, "k:1#c": 4, "k:1#d": 4} {
		costs(t, g, node, cost)
	}
}

// A thing may stand in its own nodes, and be a subject and the thing of a node at once.
func TestP5ThingsInThemselves(t *testing.T) {
	g := holding(t, []string{"k#a=this|a->a"}, "k:1#a@k:1", "k:1#a@k:2", "k:2#a@k:3", "k:3#a@u:x")
	expands(t, g, "k:1#a", "k:1", "k:2", "k:3", "u:x")
	expands(t, g, "k:3#a", "u:x")
	checks(t, g, "k:1#a@k:1", true)
	checks(t, g, "k:2#a@k:2", false)
	costs(t, g, "k:1#a", 4)
}

// By bytes "a!:x" stands ahead of "a:x", though the kind a is shorter than a!.
func TestP5OrderIsThatOfBytes(t *testing.T) {
	subjects := []string{"é:x", "a:x", "a!:x", "a:\U00010000", "a:\uFFFD", "a:é", "a:X", "a:x1", "b:a", "a:10", "a:9", "Z:z"}
	g := opened(t, "k#a=this")
	for i, subject := range subjects {
		written(t, g, i+1, "+k:1#a@"+subject)
	}
	expands(t, g, "k:1#a", "Z:z", "a!:x", "a:10", "a:9", "a:X", "a:x", "a:x1", "a:é", "a:\uFFFD", "a:\U00010000", "b:a", "é:x")
}

// As many as there may be: fifty subjects; fifty groups, each in the next one.
func TestP5P6TheMost(t *testing.T) {
	g := opened(t, "k#a=this")
	var want []string
	for i := range 50 {
		written(t, g, i+1, fmt.Sprintf("+k:1#a@u:%02d", i))
		want = append(want, fmt.Sprintf("u:%02d", i))
	}
	expands(t, g, "k:1#a", want...)
	for _, thing := range want {
		checks(t, g, "k:1#a@"+thing, true)
	}
	g = opened(t, "k#a=this")
	for i := range 49 {
		written(t, g, i+1, fmt.Sprintf("+k:%d#a@k:%d#a", i, i+1))
	}
	costs(t, g, "k:0#a", 50)
	expands(t, g, "k:0#a")
	written(t, g, 50, "+k:49#a@u:x")
	for i := range 50 {
		expands(t, g, fmt.Sprintf("k:%d#a", i), "u:x")
		costs(t, g, fmt.Sprintf("k:%d#a", i), 50-i)
	}
	written(t, g, 51, "-k:20#a@k:21#a")
	expands(t, g, "k:20#a")
	expands(t, g, "k:21#a", "u:x")
	costs(t, g, "k:0#a", 21)
}

// manyNodes opens a gate whose rules are as long as they may be and whose tuples go in circles, and tells how many nodes each of its nodes needs: more than ten thousand.
func manyNodes(t *testing.T) (*gatehouse.Gate, int) {
	t.Helper()
	heads := "abcdefghijkl"
	var rules []string
	relations := len(heads)
	for at, head := range heads {
		rule := "k#" + string(head) + "=this|" + heads[(at+1)%12:][:1]
		for other := 'Ā' + rune(at)*70; len(rule)+3 <= api.MaxRule; other++ {
			rule += "|" + string(other)
			relations++
		}
		rules = append(rules, rule)
	}
	g := opened(t, rules...)
	for i := range 24 {
		written(t, g, i+1, fmt.Sprintf("+k:%d#l@k:%d#a", i, i+1), fmt.Sprintf("+k:%d#l@k:%d#a", i+1, i))
	}
	written(t, g, 25, "+k:12#f@u:x")
	return g, 25 * relations
}

func TestP6ManyNodes(t *testing.T) {
	g, cost := manyNodes(t)
	for _, node := range []string{"k:0#a", "k:24#l", "k:12#g"} {
		expands(t, g, node, "u:x")
		costs(t, g, node, cost)
	}
}

func TestP5P6WhatIsNoQuestion(t *testing.T) {
	g := holding(t, []string{"a#b=this"}, "a:b#b@c:d")
	for _, text := range []string{
		"", "a", "a:b", "a:b#", "a:b@c:d", "a:b#b@", "a:b#b@c", "a:b#b@c:", "a:b#b@:d", "a:b#b@c:d#", "a:b#b@c:d:e", "a:b#b@c:d@e:f", "a:b#b@@c:d", "a#b", "a#b@c:d", ":b#b", "a:#b", "a:b#@c:d", "a:b#b#b",
		"+a:b#b", "-a:b#b", "+a:b#b@c:d", " a:b#b", "a:b#b ", "a:b#b\n", "a:b#b@c:d\x00", "a:b#b\x7f@c:d", "a:b#b@ c:d",
		"123456789:b#b", "a:123456789#b", "a:b#123456789", "a:b#b@123456789:d", "a:b#b@c:ééééééééé",
		"\xff:b#b", "a:\xc3#b", "a:b#\x80", "a:b#b\xff", "a:b#b@\xed\xa0\x80:d", "a:b#b@c:\xef\xbf",
		"a:b=c#b", "a:b|c#b", "a:b#b&c", "a:(b#b", "a:b)#b", "a:b#b@c>:d", "a:b#b@c:d-", "a#b=this",
		// whose subject is a node
		"a:b#b@a:b#b", "a:b#b@c:d#e", "a:b#none@a:b#b",
		strings.Repeat("a", 1000000), "a:b#" + strings.Repeat("é", 1000000), "a:b#b@c:" + strings.Repeat("\uFFFD", 1000000),
	} {
		refused(t, g, text, api.ErrTuple, api.ErrTuple, api.ErrTuple)
	}
	refused(t, g, "a:b#b", api.ErrTuple, api.OK, api.OK)
	refused(t, g, "a:b#b@c:d", api.OK, api.ErrTuple, api.OK)
}

// That a question is none goes ahead of that its node has no rule.
func TestP5P6NodesWithoutARule(t *testing.T) {
	g := holding(t, []string{"a#b=c|d->e", "d#e=this"}, "a:1#b@d:1")
	for _, node := range []string{"a:1#c", "a:1#e", "d:1#b", "x:1#b", "A:1#b", "a:1#this", "b:1#a", "d:1#d"} {
		refused(t, g, node, api.ErrTuple, api.ErrNone, api.ErrNone)
		refused(t, g, node+"@d:1", api.ErrNone, api.ErrTuple, api.ErrNone)
		refused(t, g, node+"@d:1#e", api.ErrTuple, api.ErrTuple, api.ErrTuple)
	}
	refused(t, opened(t), "a:1#b", api.ErrTuple, api.ErrNone, api.ErrNone)
	refused(t, opened(t), "a:1#b@c:d", api.ErrNone, api.ErrTuple, api.ErrNone)
}

// Things and nodes of which no tuple speaks may be asked for.
func TestP5P6Strangers(t *testing.T) {
	g := holding(t, exampleRules, "group:a#member@user:x")
	expands(t, g, "doc:new#reader")
	costs(t, g, "doc:new#reader", 2)
	checks(t, g, "doc:new#reader@user:new", false)
	checks(t, g, "group:a#member@user:new", false)
	checks(t, g, "group:a#member@group:a", false)
	costs(t, g, "group:a#member@user:new", 1)
	empty := opened(t, exampleRules...)
	expands(t, empty, "doc:1#editor")
	costs(t, empty, "doc:1#editor", 3)
}

// Answers follow what is written, and stand when the gate is closed.
func TestP5P6AsTheTuplesAre(t *testing.T) {
	g := opened(t, exampleRules...)
	written(t, g, 1, "+group:a#member@user:x", "+doc:1#reader@group:a#member")
	expands(t, g, "doc:1#reader", "user:x")
	costs(t, g, "doc:1#reader", 3)
	written(t, g, 2, "-group:a#member@user:x", "+group:a#member@user:y")
	expands(t, g, "doc:1#reader", "user:y")
	checks(t, g, "doc:1#reader@user:x", false)
	refusedWrite(t, g, []string{"+group:a#member@user:z", "none"}, 1, api.ErrTuple)
	expands(t, g, "doc:1#reader", "user:y")
	written(t, g, 3, "-doc:1#reader@group:a#member")
	expands(t, g, "doc:1#reader")
	costs(t, g, "doc:1#reader", 2)
	written(t, g, 4, "+doc:1#reader@group:a#member")
	g.Close()
	expands(t, g, "doc:1#reader", "user:y")
	checks(t, g, "doc:1#reader@user:y", true)
	costs(t, g, "doc:1#reader", 3)
	refused(t, g, "none", api.ErrTuple, api.ErrTuple, api.ErrTuple)
	refused(t, g, "doc:1#none", api.ErrTuple, api.ErrNone, api.ErrNone)
}
