package gatehouse_test

import (
	"fmt"
	"math/rand"
	"slices"
	"strings"
	"testing"

	"gatehouse/api"
	"gatehouse/gatehouse"
)

// A plainRequest knows its answer from the first: only when it is told hangs on the steps.
type plainRequest struct {
	node                string
	budget, until, cost int
	is, steps, worker   int
	allowedInTheEnd     bool
	usersInTheEnd       []string
}

// A plainGate does what the document says of requests, word by word, with the numbers of workers written at the requests.
type plainGate struct {
	rules          []string
	tuples         []string
	workers, queue int
	clock          int
	closed         bool
	requests       []*plainRequest
}

func (g *plainGate) submit(question string, budget, until int) (int, api.Errno) {
	node, user, isCheck := strings.Cut(question, "@")
	_, found := plainly(g.rules, nil).way(node)
	waiting := 0
	for _, r := range g.requests {
		if r.is == api.Waiting {
			waiting++
		}
	}
	switch {
	case g.closed:
		return 0, api.ErrClosed
	case budget < 1 || budget > 1000000000 || until < 0 || until > 1000000000:
		return 0, api.ErrArg
	case strings.Contains(user, "#") || strings.Count(node, "#") != 1 || isCheck && user == "":
		return 0, api.ErrTuple
	case !found:
		return 0, api.ErrNone
	case waiting >= g.queue || len(g.requests) >= 30:
		return 0, api.ErrFull
	}
	p := plainly(g.rules, g.tuples)
	p.settle(allNodes, allUsers)
	r := &plainRequest{node: node, budget: budget, until: until, cost: p.cost(node), is: api.Waiting}
	if isCheck {
		r.allowedInTheEnd = p.who[node][user]
	} else {
		r.usersInTheEnd = p.in(node)
	}
	if until <= g.clock {
		r.is = api.Late
	}
	g.requests = append(g.requests, r)
	return len(g.requests), api.OK
}

func (g *plainGate) step(worker int) api.Errno {
	if g.closed {
		return api.ErrClosed
	}
	if worker < 0 || worker >= g.workers {
		return api.ErrArg
	}
	var has *plainRequest
	nodes := map[string]bool{}
	for _, r := range g.requests {
		if r.is == api.Working {
			nodes[r.node] = true
			if r.worker == worker {
				has = r
			}
		}
	}
	for _, r := range g.requests {
		if has == nil && r.is == api.Waiting && !nodes[r.node] {
			has = r
			r.is, r.worker = api.Working, worker
		}
	}
	if has != nil {
		has.steps++
		if has.steps == has.cost {
			has.is = api.Done
		} else if has.steps == has.budget {
			has.is = api.Budget
		}
	}
	return api.OK
}

func (g *plainGate) tick() {
	if g.closed {
		return
	}
	g.clock++
	for _, r := range g.requests {
		if (r.is == api.Waiting || r.is == api.Working) && r.until <= g.clock {
			r.is = api.Late
		}
	}
}

func (g *plainGate) cancel(id int) bool {
	if id < 1 || id > len(g.requests) {
		return false
	}
	r := g.requests[id-1]
	if r.is != api.Waiting && r.is != api.Working {
		return false
	}
	r.is = api.Cancelled
	return true
}

func (g *plainGate) close() {
	g.closed = true
	for id := range g.requests {
		g.cancel(id + 1)
	}
}

func (g *plainGate) polls() []string {
	var all []string
	for _, r := range g.requests {
		state := api.State{Is: r.is, Steps: r.steps}
		if r.is == api.Done {
			state.Allowed, state.Users = r.allowedInTheEnd, r.usersInTheEnd
		}
		all = append(all, told(state))
	}
	return all
}

// write adds or takes away a tuple that may be written; the program's own Write is tested elsewhere.
func (g *plainGate) write(chance *rand.Rand) string {
	if len(g.tuples) > 0 && (chance.Intn(3) == 0 || len(g.tuples) == api.MaxTuples) {
		at := chance.Intn(len(g.tuples))
		part := "-" + g.tuples[at]
		g.tuples = slices.Delete(slices.Clone(g.tuples), at, at+1)
		return part
	}
	node, subject := someNode(chance), someThing(chance)
	if chance.Intn(3) == 0 {
		subject = someNode(chance)
	}
	if !plainly(g.rules, nil).mayHold(node, subject) {
		return ""
	}
	if tuple := node + "@" + subject; !slices.Contains(g.tuples, tuple) {
		g.tuples = append(slices.Clone(g.tuples), tuple)
	}
	return "+" + node + "@" + subject
}

func someQuestion(chance *rand.Rand) string {
	switch chance.Intn(20) {
	case 0:
		return someNode(chance) + "@"
	case 1:
		return someNode(chance) + "@" + someNode(chance)
	case 2:
		return someThing(chance)
	}
	if chance.Intn(2) == 0 {
		return someNode(chance)
	}
	return someNode(chance) + "@" + someThing(chance)
}

// both does one thing by chance at the gate and at the plain one, and tells what it was and whether the answers are the same.
func (p *plainGate) both(g *gatehouse.Gate, chance *rand.Rand) (string, bool) {
	switch at := chance.Intn(100); {
	case at < 10:
		part := p.write(chance)
		if p.closed || part == "" {
			return "nothing", true
		}
		_, _, e := g.Write([]string{part})
		return "Write " + part, e == api.OK
	case at < 30:
		question := someQuestion(chance)
		budget, until := chance.Intn(13), p.clock+chance.Intn(12)-1
		id, e := g.Submit(question, budget, until)
		want, f := p.submit(question, budget, until)
		return fmt.Sprintf("Submit %s %d %d: %d %d, want %d %d", question, budget, until, id, e, want, f), id == want && e == f
	case at < 90:
		worker := chance.Intn(p.workers)
		if at < 32 {
			worker = 5*(at-30) - 1
		}
		e, f := g.Step(worker), p.step(worker)
		return fmt.Sprintf("Step %d: %d, want %d", worker, e, f), e == f
	case at < 95:
		g.Tick()
		p.tick()
		return "Tick", true
	case at < 99 || chance.Intn(5) > 0:
		id := chance.Intn(len(p.requests) + 2)
		is, want := g.Cancel(id), p.cancel(id)
		return fmt.Sprintf("Cancel %d: %v, want %v", id, is, want), is == want
	}
	g.Close()
	p.close()
	return "Close", true
}

// P7 to P11, at gates put together by chance, of which things are asked by chance.
func TestP7ToP11AgainstThePlainWords(t *testing.T) {
	chance := rand.New(rand.NewSource(7))
	became := map[string]int{}
	for range 250 {
		p := &plainGate{workers: 1 + chance.Intn(4), queue: 1 + chance.Intn(6), rules: someRules(chance)}
		g := openedFor(t, p.workers, p.queue, p.rules...)
		p.tuples = someTuples(chance, plainly(p.rules, nil))
		for i, tuple := range p.tuples {
			written(t, g, i+1, "+"+tuple)
		}
		var done []string
		for range 200 {
			what, same := p.both(g, chance)
			done = append(done, what)
			if !same {
				t.Errorf("not the same: %s", what)
			}
			polls(t, g, p.polls()...)
			if t.Failed() {
				t.Fatalf("by the rules %q, %d workers and a queue of %d:\n%s", p.rules, p.workers, p.queue, strings.Join(done, "\n"))
			}
		}
		for _, words := range p.polls() {
			kind, _, _ := strings.Cut(words, " ")
			became[kind]++
		}
	}
	for _, kind := range []string{"done", "budget", "late", "cancelled"} {
		if became[kind] < 100 {
			t.Errorf("too few requests became %s: %v", kind, became)
		}
	}
}
