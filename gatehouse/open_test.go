package gatehouse_test

import (
	"fmt"
	"math"
	"slices"
	"strings"
	"testing"

	"gatehouse/api"
	"gatehouse/gatehouse"
)

func TestP3Numbers(t *testing.T) {
	for workers := -1; workers <= 6; workers++ {
		for queue := -1; queue <= 8; queue++ {
			g, at, e := gatehouse.Open([]string{"a#b=this"}, workers, queue)
			want := api.ErrArg
			if workers >= 1 && workers <= 4 && queue >= 1 && queue <= 6 {
				want = api.OK
			}
			if e != want || at != 0 || (g != nil) != (want == api.OK) {
				t.Errorf("Open with %d workers and a queue of %d = %v, %d, %d", workers, queue, g != nil, at, e)
			}
		}
	}
	refusedOpen(t, nil, math.MinInt, 1, 0, api.ErrArg)
	refusedOpen(t, nil, 1, math.MaxInt, 0, api.ErrArg)
}

func TestP3HowManyRules(t *testing.T) {
	var rules []string
	for i := range 13 {
		rules = append(rules, fmt.Sprintf("a#r%d=this", i))
	}
	holds(t, opened(t))
	holds(t, opened(t, rules[:12]...))
	refusedOpen(t, rules, 1, 1, 0, api.ErrArg)
	refusedOpen(t, make([]string, 1000000), 1, 1, 0, api.ErrArg)
}

func TestP3WhatIsARule(t *testing.T) {
	for _, rule := range []string{
		"a#b=this", "a#b=b", "a#b=c->d", "a#b=c->c", "a#b=this|c|d->e", "a#b=this&c&d->e",
		"a#b=(this)", "a#b=(((((this)))))", "a#b=((((c))))&(((((d)))))", "a#b=(c|d)&(e|f)", "a#b=c|(d&(e|f))",
		"this#b=this", "a#This=thiss|thi", "12345678#12345678=12345678->12345678",
		"éééééééé#日日日日日日日日=\U0001F600->\uFFFD", "<#!=~|,|.|\"", "a\u00a0#\u2003=\u0080",
	} {
		opened(t, rule)
	}
}

func TestP3WhatIsNoRule(t *testing.T) {
	for _, rule := range []string{
		"", "=", "#", "a", "a#b", "a#b=", "a=this", "#b=this", "a#=this", "a:b#c=this", "a#b@c=this", "a#b#c=this", "a#b=c=d", "+a#b=this",
		"a#this=this", "a#b=this->c", "a#b=c->this", "a#b=this->this", "a#b=c|this->d",
		"a#b=c->", "a#b=->c", "a#b=c->d->e", "a#b=c-d", "a#b=c>d", "a#b=c>-d", "a#b=(c)->d", "a#b=c->(d)",
		"a#b=|c", "a#b=c|", "a#b=c||d", "a#b=&c", "a#b=c&", "a#b=c&&d", "a#b=c|d&e", "a#b=c&d|e", "a#b=c|&d", "a#b=(c|d&e)",
		"a#b=()", "a#b=(", "a#b=)", "a#b=(c", "a#b=c)", "a#b=((c)", "a#b=(c))", "a#b=(c)(d)", "a#b=c(d)", "a#b=(c)d", "a#b=(c|)",
		"a#b=((((((this))))))", "a#b=c|((((((d))))))", "a#b=(((((c&(d|e))))))",
		" a#b=this", "a#b=this ", "a #b=this", "a#b =this", "a#b=c |d", "a#b=c\t|d", "a#b=this\n",
		"123456789#b=this", "a#123456789=this", "a#b=123456789", "a#b=c->ééééééééé", "a#b=123456789->c",
		"\xff#b=this", "a#\xc3=this", "a#b=\xed\xa0\x80", "a#b=c\x00", "a#b=c\x1f", "a#b=\x7f",
	} {
		refusedOpen(t, []string{rule}, 1, 1, 0, api.ErrRule)
		refusedOpen(t, []string{"x#y=this", "x#z=this", rule, "x#y=this"}, 1, 1, 2, api.ErrRule)
	}
}

// ruleOf gives a rule of just so many bytes, of two-byte runes but for its end.
func ruleOf(length int) string {
	rule := "a#b=é" + strings.Repeat("|é", (length-11)/3)
	return rule + "|" + strings.Repeat("c", length-len(rule)-1)
}

// The bound is one of bytes, not of runes.
func TestP3HowLongARuleMayBe(t *testing.T) {
	for length := 190; length <= 200; length++ {
		opened(t, ruleOf(length))
	}
	for _, length := range []int{201, 202, 203, 300, 1000000} {
		refusedOpen(t, []string{ruleOf(length)}, 1, 1, 0, api.ErrRule)
	}
	refusedOpen(t, []string{"a#b=" + strings.Repeat("(", 1000000)}, 1, 1, 0, api.ErrRule)
}

func TestP3Twice(t *testing.T) {
	opened(t, "a#b=this", "a#c=this", "c#b=this", "b#a=this")
	refusedOpen(t, []string{"a#b=this", "a#b=this"}, 1, 1, 1, api.ErrTwice)
	refusedOpen(t, []string{"a#b=this", "a#c=this", "a#b=c", "a#c=b"}, 1, 1, 2, api.ErrTwice)
	var rules []string
	for i := range 11 {
		rules = append(rules, fmt.Sprintf("a#r%d=this", i))
	}
	for i := range 11 {
		refusedOpen(t, append(slices.Clone(rules), rules[i]+"|c"), 1, 1, 11, api.ErrTwice)
	}
}
