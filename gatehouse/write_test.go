package gatehouse_test

import (
	"math/rand"
	"slices"
	"strings"
	"testing"

	"gatehouse/api"
)

func TestP4VersionsAndOrder(t *testing.T) {
	g := opened(t, "group#member=this", "doc#reader=this", "Z#é=this", "é#é=this")
	holds(t, g)
	written(t, g, 1)
	written(t, g, 2, "+group:b#member@user:x", "+group:a#member@group:b#member", "+é:1#é@u:v", "+doc:1#reader@group:a#member", "+Z:1#é@u:v")
	holds(t, g, "Z:1#é@u:v", "doc:1#reader@group:a#member", "group:a#member@group:b#member", "group:b#member@user:x", "é:1#é@u:v")
	written(t, g, 3, "-doc:1#reader@group:a#member", "-é:1#é@u:v", "-Z:1#é@u:v")
	holds(t, g, "group:a#member@group:b#member", "group:b#member@user:x")
	written(t, g, 4, "-group:a#member@group:b#member", "-group:b#member@user:x")
	holds(t, g)
}

// By bytes "a:1!#…" stands ahead of "a:1#…", though the name 1 is shorter than 1!.
func TestP4OrderIsThatOfBytes(t *testing.T) {
	g := opened(t, "a#b=this")
	written(t, g, 1, "+a:\uFFFD#b@c:d", "+a:\U00010000#b@c:d", "+a:1#b@c:d", "+a:1!#b@c:d", "+a:10#b@c:d", "+a:1#b@c:D", "+a:1#b@a:d#b")
	holds(t, g, "a:1!#b@c:d", "a:1#b@a:d#b", "a:1#b@c:D", "a:1#b@c:d", "a:10#b@c:d", "a:\uFFFD#b@c:d", "a:\U00010000#b@c:d")
}

func TestP4PartsAreDoneInTurn(t *testing.T) {
	g := opened(t, "a#b=this")
	written(t, g, 1, "+a:1#b@c:d", "-a:1#b@c:d")
	holds(t, g)
	written(t, g, 2, "-a:1#b@c:d", "+a:1#b@c:d")
	holds(t, g, "a:1#b@c:d")
	written(t, g, 3, "+a:1#b@c:d", "+a:1#b@c:d", "-a:2#b@c:d")
	holds(t, g, "a:1#b@c:d")
	written(t, g, 4, "-a:1#b@c:d", "-a:1#b@c:d")
	holds(t, g)
}

func TestP4WhatIsATuple(t *testing.T) {
	g := opened(t, "a#b=this", "12345678#éééééééé=this", "\uFFFD#<=this")
	for i, tuple := range []string{
		"a:b#b@c:d", "a:b#b@a:b", "a:b#b@a:b#b", "12345678:日日日日日日日日#éééééééé@12345678:12345678#éééééééé",
		"\uFFFD:\uFFFD#<@\uFFFD:\uFFFD#<", "a:this#b@this:this", "a:!\"$%'*,.#b@/;<?[\\]^:_`{}~", "a:\u00a0#b@\u0080:\u2003", "a:\U0010FFFF#b@c:d",
	} {
		written(t, g, 2*i+1, "+"+tuple)
		holds(t, g, tuple)
		written(t, g, 2*i+2, "-"+tuple)
		holds(t, g)
	}
}

func TestP4WhatIsNoTuple(t *testing.T) {
	g := opened(t, "a#b=this")
	for _, text := range []string{
		"", "a", "a:b", "a:b#b", "a:b#b@", "a:b#b@c", "a:b#b@c:", "a:b#b@:d", "a:b#b@c#b", "a:b#b@c:d#", "a:b#b@c:d#e#f", "a:b#b@c:d:e", "a:b#b@c:d@e:f", "a:b#b@@c:d",
		"a#b@c:d", ":b#b@c:d", "a:#b@c:d", "a:b#@c:d", "a:b@c:d", "a::b#b@c:d", "a:b##b@c:d", "a:b:c#b@c:d", "a:b#b#b@c:d", "@c:d", "+a:b#b@c:d", "-a:b#b@c:d",
		" a:b#b@c:d", "a:b#b@c:d ", "a:b #b@c:d", "a:b#b@ c:d", "a:b#b@c:d\n", "a:b#b@c:d\x00", "a:b#b@c:\x1f", "a:b#b@c:d\x7f",
		"123456789:b#b@c:d", "a:123456789#b@c:d", "a:b#123456789@c:d", "a:b#b@123456789:d", "a:b#b@c:ééééééééé", "a:b#b@c:d#123456789",
		"\xff:b#b@c:d", "a:\xc3#b@c:d", "a:b#\x80@c:d", "a:b#b@\xed\xa0\x80:d", "a:b#b@c:\xef\xbf", "a:b#b@c:d#\xc0\x80", "a:b#b@c:\uFFFD\xbd",
		"a:b=c#b@c:d", "a:b|c#b@c:d", "a:b&c#b@c:d", "a:(b#b@c:d", "a:b)#b@c:d", "a:b>c#b@c:d", "a:b+c#b@c:d", "a:b-c#b@c:d",
		strings.Repeat("a", 1000000), "a:b#b@c:" + strings.Repeat("\uFFFD", 1000000),
	} {
		for _, sign := range []string{"+", "-"} {
			refusedWrite(t, g, []string{sign + text}, 0, api.ErrTuple)
			refusedWrite(t, g, []string{"+a:b#b@c:d", sign + text, ""}, 1, api.ErrTuple)
		}
	}
	for _, part := range []string{"", "a:b#b@c:d", " +a:b#b@c:d", "*a:b#b@c:d", "=a:b#b@c:d", "\xff+a:b#b@c:d", "\u2212a:b#b@c:d"} {
		refusedWrite(t, g, []string{part}, 0, api.ErrTuple)
	}
	holds(t, g)
	written(t, g, 1)
}

func TestP4NodesWithoutARule(t *testing.T) {
	g := opened(t, "a#b=c", "d#e=this")
	written(t, g, 1, "+a:1#b@a:2", "+a:1#b@x:y", "+a:1#b@d:1#e", "+d:1#e@a:1#b")
	for _, tuple := range []string{
		"a:1#c@x:y", "a:1#e@x:y", "d:1#b@x:y", "x:1#b@x:y", "A:1#b@x:y", "a:1#this@x:y", "b:1#a@x:y",
		"a:1#b@a:1#c", "a:1#b@d:1#b", "a:1#b@x:1#e", "a:1#b@a:1#this", "a:1#c@a:1#c",
	} {
		for _, sign := range []string{"+", "-"} {
			refusedWrite(t, g, []string{sign + tuple}, 0, api.ErrNone)
			refusedWrite(t, g, []string{"-a:1#b@x:y", "+a:3#b@x:y", sign + tuple, "none"}, 2, api.ErrNone)
		}
	}
	holds(t, g, "a:1#b@a:2", "a:1#b@d:1#e", "a:1#b@x:y", "d:1#e@a:1#b")
	bare := opened(t)
	refusedWrite(t, bare, []string{"+a:1#b@x:y"}, 0, api.ErrNone)
	written(t, bare, 1)
}

func TestP4HowLongABatchMayBe(t *testing.T) {
	g := opened(t, "a#b=this")
	written(t, g, 1, numbered(0, 20)...)
	refusedWrite(t, g, numbered(0, 21), 0, api.ErrFull)
	refusedWrite(t, g, slices.Repeat([]string{"-a:00#b@c:d"}, 21), 0, api.ErrFull)
	refusedWrite(t, g, make([]string, 1000000), 0, api.ErrFull)
	if got := g.Tuples(); len(got) != 20 {
		t.Errorf("%d tuples, want 20", len(got))
	}
}

// Only how many there are in the end counts, not on the way there.
func TestP4HowManyTuplesThereMayBe(t *testing.T) {
	g := opened(t, "a#b=this")
	written(t, g, 1, numbered(0, 20)...)
	written(t, g, 2, numbered(20, 40)...)
	refusedWrite(t, g, numbered(40, 51), 0, api.ErrFull)
	written(t, g, 3, numbered(40, 50)...)
	refusedWrite(t, g, numbered(50, 51), 0, api.ErrFull)
	refusedWrite(t, g, []string{"-a:00#b@c:d", "+a:50#b@c:d", "+a:00#b@c:d"}, 0, api.ErrFull)
	if got := g.Tuples(); len(got) != 50 || got[0] != "a:00#b@c:d" || got[49] != "a:49#b@c:d" {
		t.Errorf("%d tuples: %q", len(got), got)
	}
	written(t, g, 4, numbered(30, 50)...)
	written(t, g, 5, append(numbered(50, 60), "-a:00#b@c:d", "-a:01#b@c:d", "-a:02#b@c:d", "-a:03#b@c:d", "-a:04#b@c:d", "-a:05#b@c:d", "-a:06#b@c:d", "-a:07#b@c:d", "-a:08#b@c:d", "-a:09#b@c:d")...)
	if got := g.Tuples(); len(got) != 50 || got[0] != "a:10#b@c:d" || got[49] != "a:59#b@c:d" {
		t.Errorf("%d tuples: %q", len(got), got)
	}
}

func TestP4Closed(t *testing.T) {
	g := opened(t, "a#b=this")
	written(t, g, 1, "+a:1#b@c:d")
	for range 2 {
		g.Close()
		refusedWrite(t, g, nil, 0, api.ErrClosed)
		refusedWrite(t, g, []string{"+a:2#b@c:d"}, 0, api.ErrClosed)
		holds(t, g, "a:1#b@c:d")
	}
}

// Random batches, against a set that is kept beside the gate.
func TestP4AgainstASet(t *testing.T) {
	chance := rand.New(rand.NewSource(3))
	g := opened(t, "a#b=this")
	tuples := numbered(0, 75)
	set, version, full := map[string]bool{}, 0, 0
	for range 5000 {
		next := map[string]bool{}
		for tuple := range set {
			next[tuple] = true
		}
		var batch []string
		for range chance.Intn(21) {
			tuple := tuples[chance.Intn(len(tuples))][1:]
			if chance.Intn(10) < 7 {
				batch = append(batch, "+"+tuple)
				next[tuple] = true
			} else {
				batch = append(batch, "-"+tuple)
				delete(next, tuple)
			}
		}
		if len(next) > api.MaxTuples {
			full++
			refusedWrite(t, g, batch, 0, api.ErrFull)
		} else {
			set = next
			version++
			written(t, g, version, batch...)
		}
		var want []string
		for tuple := range set {
			want = append(want, tuple)
		}
		slices.Sort(want)
		holds(t, g, want...)
	}
	if full < 100 || version < 100 {
		t.Errorf("%d refused and %d done: too few of one", full, version)
	}
}
