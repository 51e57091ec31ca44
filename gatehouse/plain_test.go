package gatehouse_test

import (
	"math/rand"
	"slices"
	"strings"
	"testing"

	"gatehouse/api"
)

// A plain answers as the document's words say, by texts alone: slowly, and otherwise than the program does.
type plain struct {
	rules  map[string]string // by kind#relation
	tuples []string
	who    map[string]map[string]bool
}

func plainly(rules, tuples []string) *plain {
	p := &plain{rules: map[string]string{}, tuples: tuples, who: map[string]map[string]bool{}}
	for _, rule := range rules {
		head, way, _ := strings.Cut(rule, "=")
		p.rules[head] = way
	}
	return p
}

func (p *plain) way(node string) (string, bool) {
	thing, relation, _ := strings.Cut(node, "#")
	kind, _, _ := strings.Cut(thing, ":")
	way, found := p.rules[kind+"#"+relation]
	return way, found
}

func (p *plain) subjects(node string) []string {
	var subjects []string
	for _, tuple := range p.tuples {
		if of, subject, _ := strings.Cut(tuple, "@"); of == node {
			subjects = append(subjects, subject)
		}
	}
	return subjects
}

// parted cuts a way at a mark that stands in no brackets.
func parted(way, mark string) []string {
	var parts []string
	open, from := 0, 0
	for at := range len(way) {
		switch c := way[at : at+1]; {
		case c == "(":
			open++
		case c == ")":
			open--
		case c == mark && open == 0:
			parts = append(parts, way[from:at])
			from = at + 1
		}
	}
	return append(parts, way[from:])
}

// leaves tells the nodes and things of a way without marks and brackets.
func (p *plain) leaves(node, way string) []string {
	thing, _, _ := strings.Cut(node, "#")
	if way == "this" {
		return p.subjects(node)
	}
	over, relation, through := strings.Cut(way, "->")
	if !through {
		return []string{thing + "#" + way}
	}
	var leaves []string
	for _, subject := range p.subjects(thing + "#" + over) {
		if !strings.Contains(subject, "#") {
			leaves = append(leaves, subject+"#"+relation)
		}
	}
	return leaves
}

// stands asks whether the user stands in a node by a way, as far as is known.
func (p *plain) stands(user, node, way string) bool {
	if parts := parted(way, "|"); len(parts) > 1 {
		return slices.ContainsFunc(parts, func(part string) bool { return p.stands(user, node, part) })
	}
	if parts := parted(way, "&"); len(parts) > 1 {
		return !slices.ContainsFunc(parts, func(part string) bool { return !p.stands(user, node, part) })
	}
	if strings.HasPrefix(way, "(") {
		return p.stands(user, node, way[1:len(way)-1])
	}
	return slices.ContainsFunc(p.leaves(node, way), func(leaf string) bool { return leaf == user || p.who[leaf][user] })
}

// settle adds reasons until there is none to add.
func (p *plain) settle(nodes, users []string) {
	for grown := true; grown; {
		grown = false
		for _, node := range nodes {
			way, found := p.way(node)
			for _, user := range users {
				if found && !p.who[node][user] && p.stands(user, node, way) {
					if p.who[node] == nil {
						p.who[node] = map[string]bool{}
					}
					p.who[node][user] = true
					grown = true
				}
			}
		}
	}
}

func (p *plain) need(node string, needed map[string]bool) {
	if needed[node] {
		return
	}
	needed[node] = true
	way, found := p.way(node)
	if !found {
		return
	}
	for _, leaf := range strings.FieldsFunc(way, func(c rune) bool { return strings.ContainsRune("|&()", c) }) {
		for _, named := range p.leaves(node, leaf) {
			if strings.Contains(named, "#") {
				p.need(named, needed)
			}
		}
	}
}

func (p *plain) cost(node string) int {
	needed := map[string]bool{}
	p.need(node, needed)
	return len(needed)
}

var (
	someKinds     = []string{"k", "m"}
	someNames     = []string{"1", "2", "3"}
	someRelations = []string{"a", "b", "c", "d", "p", "none"}
)

func pick(chance *rand.Rand, of []string) string {
	return of[chance.Intn(len(of))]
}

func someWay(chance *rand.Rand, depth int) string {
	switch chance.Intn(8) {
	case 0, 1, 2:
		return "this"
	case 3:
		return pick(chance, someRelations)
	case 4:
		return "p->" + pick(chance, someRelations)
	case 5:
		return pick(chance, someRelations) + "->" + pick(chance, someRelations)
	}
	if depth == 0 {
		return "this"
	}
	parts := make([]string, 2+chance.Intn(2))
	for i := range parts {
		parts[i] = someWay(chance, depth-1)
		if strings.ContainsAny(parts[i], "|&") || chance.Intn(5) == 0 && depth > 1 {
			parts[i] = "(" + parts[i] + ")"
		}
	}
	return strings.Join(parts, pick(chance, []string{"|", "|", "&"}))
}

func someNode(chance *rand.Rand) string {
	return pick(chance, someKinds) + ":" + pick(chance, someNames) + "#" + pick(chance, someRelations)
}

func someThing(chance *rand.Rand) string {
	return pick(chance, []string{"k", "m", "u", "u"}) + ":" + pick(chance, someNames)
}

// someRules has one for most kinds and relations, never for the relation none.
func someRules(chance *rand.Rand) []string {
	var rules []string
	for _, kind := range someKinds {
		for _, relation := range someRelations[:5] {
			if chance.Intn(6) > 0 {
				rules = append(rules, kind+"#"+relation+"="+someWay(chance, 3))
			}
		}
	}
	return rules
}

func (p *plain) mayHold(node, subject string) bool {
	_, found := p.way(node)
	_, foundToo := p.way(subject)
	return found && (foundToo || !strings.Contains(subject, "#"))
}

func someTuples(chance *rand.Rand, p *plain) []string {
	var tuples []string
	for range chance.Intn(70) {
		node, subject := someNode(chance), someThing(chance)
		if chance.Intn(3) == 0 {
			subject = someNode(chance)
		}
		if tuple := node + "@" + subject; p.mayHold(node, subject) && !slices.Contains(tuples, tuple) && len(tuples) < api.MaxTuples {
			tuples = append(tuples, tuple)
		}
	}
	return tuples
}

var allNodes, allUsers = everything()

func everything() (nodes, users []string) {
	for _, name := range someNames {
		for _, kind := range someKinds {
			users = append(users, kind+":"+name)
			for _, relation := range someRelations {
				nodes = append(nodes, kind+":"+name+"#"+relation)
			}
		}
		users = append(users, "u:"+name)
	}
	slices.Sort(users)
	return nodes, users
}

// in tells who stands in a node, when all is settled.
func (p *plain) in(node string) []string {
	return slices.DeleteFunc(slices.Clone(allUsers), func(user string) bool { return !p.who[node][user] })
}

// P5 and P6, at gates put together by chance.
func TestP5P6AgainstThePlainWords(t *testing.T) {
	chance := rand.New(rand.NewSource(5))
	sizes := map[int]int{}
	for range 400 {
		rules := someRules(chance)
		p := plainly(rules, nil)
		p.tuples = someTuples(chance, p)
		p.settle(allNodes, allUsers)
		g := holding(t, rules, p.tuples...)
		for _, node := range allNodes {
			if _, found := p.way(node); !found {
				refused(t, g, node, api.ErrTuple, api.ErrNone, api.ErrNone)
				continue
			}
			want := p.in(node)
			sizes[len(want)]++
			expands(t, g, node, want...)
			costs(t, g, node, p.cost(node))
			user := pick(chance, allUsers)
			checks(t, g, node+"@"+user, p.who[node][user])
		}
		if t.Failed() {
			t.Fatalf("by the rules %q and the tuples %q", rules, p.tuples)
		}
	}
	if len(sizes) < 6 {
		t.Errorf("too few kinds of answers: %v", sizes)
	}
}

// P11: more tuples never make that somebody stands in a node no more.
func TestP11MoreTuples(t *testing.T) {
	chance := rand.New(rand.NewSource(8))
	grown := 0
	for range 40 {
		rules := someRules(chance)
		g := opened(t, rules...)
		before := map[string][]string{}
		for i, tuple := range someTuples(chance, plainly(rules, nil)) {
			written(t, g, i+1, "+"+tuple)
			for _, node := range allNodes {
				who, _ := g.Expand(node)
				for _, user := range before[node] {
					if !slices.Contains(who, user) {
						t.Fatalf("by the rules %q and the tuples %q, %s stands in %s no more", rules, g.Tuples(), user, node)
					}
				}
				grown += len(who) - len(before[node])
				before[node] = who
			}
		}
	}
	if grown < 300 {
		t.Errorf("too few came to stand anywhere: %d", grown)
	}
}

// P5, where who stands in a node goes round many others, which name one another in no order.
func TestP5ManyGroupsAgainstThePlainWords(t *testing.T) {
	chance := rand.New(rand.NewSource(6))
	for range 100 {
		rules := []string{"k#a=this|p->a|b", "k#b=c&this", "k#c=a", "k#p=this"}
		var nodes, users, tuples []string
		for name := range 14 {
			thing := "k:" + string(rune('A'+name))
			nodes = append(nodes, thing+"#a", thing+"#b", thing+"#c", thing+"#p")
			users = append(users, thing)
		}
		users = append(users, "u:x", "u:y", "u:z")
		for len(tuples) < api.MaxTuples {
			tuple := pick(chance, nodes) + "@" + pick(chance, slices.Concat(users, nodes))
			if chance.Intn(3) == 0 {
				tuple = pick(chance, users[:14]) + "#p@" + pick(chance, users[:14])
			}
			if !slices.Contains(tuples, tuple) {
				tuples = append(tuples, tuple)
			}
		}
		p := plainly(rules, tuples)
		p.settle(nodes, users)
		g := holding(t, rules, tuples...)
		for _, node := range nodes {
			expands(t, g, node, slices.DeleteFunc(slices.Clone(users), func(user string) bool { return !p.who[node][user] })...)
			costs(t, g, node, p.cost(node))
		}
		if t.Failed() {
			t.Fatalf("by the tuples %q", tuples)
		}
	}
}
