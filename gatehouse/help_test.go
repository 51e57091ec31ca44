package gatehouse_test

import (
	"fmt"
	"slices"
	"testing"
	"unsafe"

	"gatehouse/api"
	"gatehouse/gatehouse"
)

func opened(t *testing.T, rules ...string) *gatehouse.Gate {
	t.Helper()
	return openedFor(t, 1, 1, rules...)
}

func openedFor(t *testing.T, workers, queue int, rules ...string) *gatehouse.Gate {
	t.Helper()
	g, at, e := gatehouse.Open(rules, workers, queue)
	if g == nil || at != 0 || e != api.OK {
		t.Fatalf("Open(%q, %d, %d) = %v, %d, %d", rules, workers, queue, g != nil, at, e)
	}
	return g
}

func refusedOpen(t *testing.T, rules []string, workers, queue, place int, want api.Errno) {
	t.Helper()
	g, at, e := gatehouse.Open(rules, workers, queue)
	if g != nil || at != place || e != want {
		t.Errorf("Open(%.80q, %d, %d) = %v, %d, %d, want %d, %d", rules[:min(3, len(rules))], workers, queue, g != nil, at, e, place, want)
	}
}

func written(t *testing.T, g *gatehouse.Gate, version int, batch ...string) {
	t.Helper()
	if v, at, e := g.Write(batch); v != version || at != 0 || e != api.OK {
		t.Errorf("Write(%q) = %d, %d, %d, want %d", batch, v, at, e, version)
	}
}

func refusedWrite(t *testing.T, g *gatehouse.Gate, batch []string, place int, want api.Errno) {
	t.Helper()
	if v, at, e := g.Write(batch); v != 0 || at != place || e != want {
		t.Errorf("Write(%.80q) = %d, %d, %d, want %d, %d", batch[:min(3, len(batch))], v, at, e, place, want)
	}
}

func holds(t *testing.T, g *gatehouse.Gate, want ...string) {
	t.Helper()
	if got := g.Tuples(); !slices.Equal(got, want) {
		t.Errorf("Tuples = %q, want %q", got, want)
	}
}

// numbered gives parts that each add a tuple of its own.
func numbered(from, to int) []string {
	var parts []string
	for i := from; i < to; i++ {
		parts = append(parts, fmt.Sprintf("+a:%02d#b@c:d", i))
	}
	return parts
}

// A lent text lies in memory that can be overwritten, so that it shows who has kept a piece of it.
type lent struct{ bytes []byte }

func lend(text string) *lent {
	return &lent{bytes: []byte(text)}
}

func (l *lent) text() string {
	return unsafe.String(&l.bytes[0], len(l.bytes))
}

func (l *lent) overwrite() {
	for i := range l.bytes {
		l.bytes[i] = '!'
	}
}
