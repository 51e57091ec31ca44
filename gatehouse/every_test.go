package gatehouse_test

import (
	"fmt"
	"math"
	"slices"
	"strings"
	"sync"
	"testing"

	"gatehouse/api"
	"gatehouse/gatehouse"
)

// P1: whatever is handed in, the calls end and do not panic.
func TestP1EveryCallEnds(t *testing.T) {
	texts := []string{"", "+", "-", "@", "#", ":", "=", "\x00", "\xff", "a#b=", "a:b#c@", "+a:b#c@d:e#"}
	for _, piece := range []string{"(", ")", "a", "é", "\xff", "a#b=(", "+a:b#c@", "|", "->", "\uFFFD"} {
		texts = append(texts, strings.Repeat(piece, 1000000))
	}
	numbers := []int{math.MinInt, -1, 0, 1, 2, 5, 7, api.MaxNumber, api.MaxNumber + 1, math.MaxInt}
	g := opened(t, "a#b=this")
	for range 2 {
		for _, text := range texts {
			gatehouse.Open([]string{text}, 1, 1)
			gatehouse.Open(slices.Repeat([]string{text}, 12), 4, 6)
			g.Write([]string{text})
			g.Write([]string{"+" + text})
			g.Write([]string{"-a:b#b@c:d", "-" + text})
			for _, question := range []string{text, "a:b#" + text, "a:b#b@" + text, "a:b#b@c:" + text} {
				g.Check(question)
				g.Expand(question)
				g.Cost(question)
				g.Submit(question, 1, 1)
			}
		}
		for _, number := range numbers {
			gatehouse.Open(nil, number, 1)
			gatehouse.Open(nil, 1, number)
			g.Submit("a:b#b", number, number)
			g.Step(number)
			g.Cancel(number)
			g.Poll(number)
			g.Tick()
		}
		g.Write(make([]string, 1000000))
		g.Write(nil)
		g.Tuples()
		g.Close()
	}
}

// P1: which error goes first, where several apply.
func TestP1TheErrorNamedFirst(t *testing.T) {
	refusedOpen(t, []string{"none"}, 0, 1, 0, api.ErrArg)
	refusedOpen(t, []string{"a#b=this", "none"}, 1, 7, 0, api.ErrArg)
	refusedOpen(t, slices.Repeat([]string{"none"}, 13), 1, 1, 0, api.ErrArg)
	refusedOpen(t, []string{"a#b=this", "a#b=", "a#b=this"}, 1, 1, 1, api.ErrRule)
	refusedOpen(t, []string{"a#b=this", "a#b=this", "none"}, 1, 1, 1, api.ErrTwice)

	g := opened(t, "a#b=this")
	none, unruled := "+", "+a:1#c@d:e"
	refusedWrite(t, g, slices.Repeat([]string{none}, 21), 0, api.ErrFull)
	refusedWrite(t, g, []string{none, unruled}, 0, api.ErrTuple)
	refusedWrite(t, g, []string{unruled, none}, 0, api.ErrNone)
	refusedWrite(t, g, []string{"+a:1#c@d:e#"}, 0, api.ErrTuple)
	written(t, g, 1, numbered(0, 20)...)
	written(t, g, 2, numbered(20, 40)...)
	refusedWrite(t, g, append(numbered(40, 59), none), 19, api.ErrTuple)
	refusedWrite(t, g, append(numbered(40, 59), unruled), 19, api.ErrNone)
	g.Close()
	refusedWrite(t, g, slices.Repeat([]string{none}, 21), 0, api.ErrClosed)
	refusedWrite(t, g, []string{none}, 0, api.ErrClosed)
	refusedWrite(t, g, []string{unruled}, 0, api.ErrClosed)
	refusedWrite(t, g, numbered(40, 60), 0, api.ErrClosed)
}

// P1: with an error nothing has changed: neither the tuples nor the version.
func TestP1AnErrorChangesNothing(t *testing.T) {
	g := opened(t, "a#b=this")
	written(t, g, 1, "+a:1#b@c:d", "+a:2#b@c:d")
	for _, last := range []string{"", "a:3#b@c:d", "+a:3#c@c:d", "+a:3#b@c:d#b"} {
		refusedBefore := []string{"-a:1#b@c:d", "+a:0#b@c:d", last}
		if v, at, e := g.Write(refusedBefore); v != 0 || at != 2 || e == api.OK {
			t.Errorf("Write(%q) = %d, %d, %d", refusedBefore, v, at, e)
		}
		holds(t, g, "a:1#b@c:d", "a:2#b@c:d")
	}
	written(t, g, 2, numbered(10, 30)...)
	written(t, g, 3, numbered(30, 50)...)
	before := g.Tuples()
	refusedWrite(t, g, append([]string{"-a:1#b@c:d"}, numbered(50, 60)...), 0, api.ErrFull)
	refusedWrite(t, g, numbered(50, 71), 0, api.ErrFull)
	holds(t, g, before...)
	written(t, g, 4)
	g.Close()
	refusedWrite(t, g, []string{"-a:1#b@c:d"}, 0, api.ErrClosed)
	holds(t, g, before...)
}

// P2: lists that are handed in stay as they are, behind their end too.
func TestP2NothingHandedInIsWrittenInto(t *testing.T) {
	rules := []string{"b#b=this", "a#b=this", "spare", "room"}
	g, _, e := gatehouse.Open(rules[:2], 1, 1)
	if e != api.OK || !slices.Equal(rules, []string{"b#b=this", "a#b=this", "spare", "room"}) {
		t.Fatalf("Open: %d, and the rules are %q", e, rules)
	}
	batch := []string{"+b:1#b@c:d", "+a:1#b@c:d", "-b:1#b@c:d", "+b:0#b@c:d", "spare", "room"}
	before := slices.Clone(batch)
	written(t, g, 1, batch[:4]...)
	refusedWrite(t, g, batch[:5], 4, api.ErrTuple)
	g.Tuples()
	if !slices.Equal(batch, before) {
		t.Errorf("behind Write the batch is %q", batch)
	}
}

// P2: nothing that is handed in is kept: neither lists nor the memory of texts.
func TestP2NothingHandedInIsKept(t *testing.T) {
	rule, head := lend("a#b=this|c->d"), lend("c#d=this")
	rules := []string{rule.text(), head.text()}
	g := opened(t, rules...)
	rule.overwrite()
	head.overwrite()
	rules[0], rules[1] = "x#y=this", "x#z=this"

	first, second := lend("+a:1#b@c:d#d"), lend("+c:1#d@u:v")
	batch := []string{first.text(), second.text()}
	written(t, g, 1, batch...)
	first.overwrite()
	second.overwrite()
	batch[0], batch[1] = "+c:9#d@u:v", "+c:9#d@u:v"
	holds(t, g, "a:1#b@c:d#d", "c:1#d@u:v")
	refusedWrite(t, g, []string{"+x:1#y@u:v"}, 0, api.ErrNone)

	again, gone := lend("+a:1#b@c:d#d"), lend("-c:1#d@u:v")
	written(t, g, 2, again.text(), gone.text())
	again.overwrite()
	gone.overwrite()
	holds(t, g, "a:1#b@c:d#d")
}

// P2: answers are the caller's, with their spare room; no other answer feels what is written into one.
func TestP2AnswersAreNewMemory(t *testing.T) {
	g := opened(t, "a#b=this")
	if got := g.Tuples(); len(got) != 0 {
		t.Errorf("Tuples of a new gate = %q", got)
	}
	var answers, wants [][]string
	var want []string
	for i, part := range numbered(0, 20) {
		written(t, g, i+1, part)
		want = append(want, part[1:])
		answers, wants = append(answers, g.Tuples()), append(wants, slices.Clone(want))
		spoil := g.Tuples()
		spoil = spoil[:cap(spoil)]
		for at := range spoil {
			spoil[at] = "the caller's"
		}
	}
	holds(t, g, want...)
	for i := range answers {
		if !slices.Equal(answers[i], wants[i]) {
			t.Errorf("the answer %d has become %q", i, answers[i])
		}
	}
}

// P2: what Expand answers is the caller's too, and shares no memory with what was asked.
func TestP2AnswersToQuestionsAreNewMemory(t *testing.T) {
	g := opened(t, "a#b=this")
	written(t, g, 1, "+a:1#b@c:z", "+a:1#b@c:y", "+a:1#b@c:x")
	for range 3 {
		spoil, _ := g.Expand("a:1#b")
		spoil = spoil[:cap(spoil)]
		for at := range spoil {
			spoil[at] = "the caller's"
		}
		expands(t, g, "a:1#b", "c:x", "c:y", "c:z")
		holds(t, g, "a:1#b@c:x", "a:1#b@c:y", "a:1#b@c:z")
	}
	node, check := lend("a:1#b"), lend("a:1#b@c:x")
	before, e := g.Expand(node.text())
	if is, f := g.Check(check.text()); !is || e != api.OK || f != api.OK {
		t.Errorf("Check = %v, %d, and Expand's error is %d", is, f, e)
	}
	g.Cost(node.text())
	g.Cost(check.text())
	node.overwrite()
	check.overwrite()
	written(t, g, 2, "-a:1#b@c:y")
	if !slices.Equal(before, []string{"c:x", "c:y", "c:z"}) {
		t.Errorf("what Expand answered has become %q", before)
	}
	expands(t, g, "a:1#b", "c:x", "c:z")
}

// P2: a question that is put to the workers is not kept in the caller's memory, and what Poll answers is the caller's.
func TestP2RequestsShareNoMemory(t *testing.T) {
	g := openedFor(t, 1, 3, "a#b=this")
	written(t, g, 1, "+a:1#b@c:z", "+a:1#b@c:y", "+a:1#b@c:x", "+a:2#b@c:x")
	node, check, other := lend("a:1#b"), lend("a:1#b@c:x"), lend("a:2#b@c:y")
	submits(t, g, node.text(), 1, 1, 1)
	submits(t, g, check.text(), 1, 1, 2)
	submits(t, g, other.text(), 1, 1, 3)
	for _, text := range []*lent{node, check, other} {
		text.overwrite()
	}
	steps(t, g, 0, 0, 0)
	for range 3 {
		polls(t, g, "done 1 c:x c:y c:z", "done 1 allowed", "done 1")
		spoil := g.Poll(1).Users
		spoil = spoil[:cap(spoil)]
		for at := range spoil {
			spoil[at] = "the caller's"
		}
		holds(t, g, "a:1#b@c:x", "a:1#b@c:y", "a:1#b@c:z", "a:2#b@c:x")
	}
	before := g.Poll(1).Users
	written(t, g, 2, "-a:1#b@c:x")
	g.Close()
	if !slices.Equal(before, []string{"c:x", "c:y", "c:z"}) {
		t.Errorf("what Poll answered has become %q", before)
	}
}

// P1: what is refused takes no number, no place, no worker and no step.
func TestP1ARefusedRequestChangesNothing(t *testing.T) {
	g := openedFor(t, 1, 1, "a#b=this")
	for range 40 {
		refusedSubmit(t, g, "a:1#b", 0, 9, api.ErrArg)
		refusedSubmit(t, g, "a:1", 1, 9, api.ErrTuple)
		refusedSubmit(t, g, "a:1#c", 1, 9, api.ErrNone)
		refusedStep(t, g, 1, api.ErrArg)
	}
	polls(t, g)
	submits(t, g, "a:1#b", 1, 9, 1)
	for range 40 {
		refusedSubmit(t, g, "a:2#b", 1, 9, api.ErrFull)
		refusedSubmit(t, g, "a:2#b", 1, 0, api.ErrFull)
		refusedStep(t, g, -1, api.ErrArg)
	}
	polls(t, g, "waiting")
	steps(t, g, 0)
	polls(t, g, "done 1")
	submits(t, g, "a:2#b", 1, 9, 2)
	polls(t, g, "done 1", "waiting")
}

// P2: one gate does not touch another.
func TestP2GatesAreApart(t *testing.T) {
	one, other := opened(t, "a#b=this", "a#c=this"), opened(t, "a#b=this")
	written(t, one, 1, "+a:1#b@c:d")
	written(t, one, 2, "+a:1#c@c:d")
	holds(t, other)
	refusedWrite(t, other, []string{"+a:1#c@c:d"}, 0, api.ErrNone)
	written(t, other, 1, "+a:2#b@c:d")
	one.Close()
	written(t, other, 2, "-a:1#b@c:d")
	holds(t, one, "a:1#b@c:d", "a:1#c@c:d")
	holds(t, other, "a:2#b@c:d")
	expands(t, one, "a:1#b", "c:d")
	expands(t, other, "a:1#b")
	expands(t, one, "a:2#b")
	expands(t, other, "a:2#b", "c:d")
	refused(t, other, "a:1#c", api.ErrTuple, api.ErrNone, api.ErrNone)
	third := opened(t, "a#b=this")
	submits(t, other, "a:2#b", 1, 1, 1)
	submits(t, third, "a:2#b", 1, 1, 1)
	cancels(t, one, 1, false)
	steps(t, other, 0)
	polls(t, one)
	polls(t, third, "waiting")
	other.Tick()
	other.Close()
	polls(t, third, "waiting")
	steps(t, third, 0)
	polls(t, other, "done 1 c:d")
	polls(t, third, "done 1")
}

// A gate is asked by many at once: each Write has a version of its own, and none is lost.
func TestManyAtOnce(t *testing.T) {
	g := opened(t, "a#b=this")
	parts := numbered(0, 50)
	const rounds = 40
	versions := make([][]int, len(parts))
	var all sync.WaitGroup
	for i, part := range parts {
		all.Add(1)
		go func() {
			defer all.Done()
			for range rounds {
				v, _, _ := g.Write([]string{part})
				versions[i] = append(versions[i], v)
				if got := g.Tuples(); !slices.IsSorted(got) || !slices.Contains(got, part[1:]) {
					t.Errorf("behind %q Tuples = %q", part, got)
				}
			}
		}()
	}
	all.Wait()
	told := slices.Concat(versions...)
	slices.Sort(told)
	for i, v := range told {
		if v != i+1 {
			t.Fatalf("the version told in place %d is %d", i, v)
		}
	}
	if got := g.Tuples(); len(got) != len(parts) {
		t.Errorf("%d tuples, want %d", len(got), len(parts))
	}
}

// Whoever asks while others write is answered by one version: never by half of a batch.
func TestManyAskAtOnce(t *testing.T) {
	g := opened(t, "a#b=this", "a#c=b")
	batches := [][]string{
		{"+a:1#b@u:x", "-a:1#b@a:2#b", "-a:2#b@u:y"},
		{"-a:1#b@u:x", "+a:1#b@a:2#b", "+a:2#b@u:y"},
	}
	g.Write(batches[0])
	var all sync.WaitGroup
	for i := range 16 {
		all.Add(1)
		go func() {
			defer all.Done()
			for round := range 200 {
				if i < 4 {
					g.Write(batches[round%2])
				}
				who, e := g.Expand("a:1#c")
				if e != api.OK || len(who) != 1 || who[0] != "u:x" && who[0] != "u:y" {
					t.Errorf("Expand = %q, %d", who, e)
				}
				if n, e := g.Cost("a:1#c"); e != api.OK || n != 2 && n != 3 {
					t.Errorf("Cost = %d, %d", n, e)
				}
				if is, e := g.Check("a:1#c@a:2"); is || e != api.OK {
					t.Errorf("Check = %v, %d", is, e)
				}
			}
		}()
	}
	all.Wait()
}

// Many put, step, cancel and poll at once: each request has a number of its own, and what is done has its own answer, behind its own cost.
func TestManyRequestsAtOnce(t *testing.T) {
	for range 30 {
		g := openedFor(t, api.MaxWorkers, api.MaxQueue, "a#b=this")
		for i := range 20 {
			written(t, g, i+1, fmt.Sprintf("+a:%d#b@u:%d", i, i), fmt.Sprintf("+a:%d#b@a:%d#b", i, max(i-1, 0)))
		}
		ids := make([][]int, 10) // each one's own, from the first request on
		var all sync.WaitGroup
		for asker := range ids {
			all.Add(1)
			go func() {
				defer all.Done()
				ids[asker] = asksThrice(g, asker)
			}()
		}
		all.Wait()
		for worker := range api.MaxWorkers {
			for range 2000 {
				steps(t, g, worker)
			}
		}
		numbers := slices.Concat(ids...)
		slices.Sort(numbers)
		for i, number := range numbers {
			if number != i+1 {
				t.Fatalf("the numbers are %v", numbers)
			}
		}
		for asker, own := range ids {
			for _, id := range own {
				answeredOwn(t, g, asker, id)
			}
		}
	}
}

// asksThrice lets all workers go on till there is a place: one alone could be kept waiting by what the others have.
func asksThrice(g *gatehouse.Gate, asker int) []int {
	var own []int
	for len(own) < 3 {
		id, e := g.Submit(fmt.Sprintf("a:%d#b", 2*asker), api.MaxNumber, api.MaxNumber)
		if e == api.OK {
			own = append(own, id)
			g.Poll(id)
		}
		g.Write([]string{fmt.Sprintf("+a:new#b@u:%d", asker)})
		for worker := range api.MaxWorkers {
			g.Step(worker)
		}
		g.Tick()
	}
	if asker%3 == 0 {
		g.Cancel(own[2])
	}
	return own
}

func answeredOwn(t *testing.T, g *gatehouse.Gate, asker, id int) {
	t.Helper()
	got := g.Poll(id)
	if got.Is == api.Cancelled && asker%3 == 0 {
		return
	}
	var want []string
	for user := range 2*asker + 1 {
		want = append(want, fmt.Sprintf("u:%d", user))
	}
	slices.Sort(want)
	if got.Is != api.Done || got.Steps != 2*asker+1 || !slices.Equal(got.Users, want) || got.Allowed {
		t.Errorf("the request %d became %+v, want %q", id, got, want)
	}
}
