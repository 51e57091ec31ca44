package words

import (
	"math/rand"
	"reflect"
	"regexp"
	"strings"
	"testing"
	"unicode/utf8"
)

func same(relation string) Way {
	return Way{Is: Same, Relation: relation}
}

func TestReadRuleGivesItsWay(t *testing.T) {
	for text, want := range map[string]Way{
		"this":            {Is: This},
		"b":               same("b"),
		"p->q":            {Is: Through, Over: "p", Relation: "q"},
		"(((((b)))))":     same("b"),
		"b|c|d":           {Is: Any, Parts: []Way{same("b"), same("c"), same("d")}},
		"b&c&d":           {Is: All, Parts: []Way{same("b"), same("c"), same("d")}},
		"b|(c&this)|p->q": {Is: Any, Parts: []Way{same("b"), {Is: All, Parts: []Way{same("c"), {Is: This}}}, {Is: Through, Over: "p", Relation: "q"}}},
		"(b|c)&d":         {Is: All, Parts: []Way{{Is: Any, Parts: []Way{same("b"), same("c")}}, same("d")}},
		"(b|c)|d":         {Is: Any, Parts: []Way{{Is: Any, Parts: []Way{same("b"), same("c")}}, same("d")}},
		"This|thi|thiss":  {Is: Any, Parts: []Way{same("This"), same("thi"), same("thiss")}},
	} {
		got, ok := ReadRule("doc#é=" + text)
		if !ok || !reflect.DeepEqual(got, Rule{Head{"doc", "é"}, want}) {
			t.Errorf("ReadRule of %q = %v, %v, want %v", text, got, ok, want)
		}
	}
}

func TestReadRuleGivesNothingOfWhatIsNone(t *testing.T) {
	for _, text := range []string{"", "a#b=", "a#b=c|", "a#b=(c", "a#b=c)", "a#b=c|d&e", "a#this=c", "a#b=this->c", "a#b=c->this"} {
		if got, ok := ReadRule(text); ok || !reflect.DeepEqual(got, Rule{}) {
			t.Errorf("ReadRule(%q) = %v, %v", text, got, ok)
		}
	}
}

var (
	headForm  = regexp.MustCompile(`^` + nameForm + `#(` + nameForm + `)=`)
	wordForm  = regexp.MustCompile(`[^()|&]+`)
	leafForm  = regexp.MustCompile(`^` + nameForm + `(->` + nameForm + `)?$`)
	innerForm = regexp.MustCompile(`\(1(\|1)*\)|\(1(&1)*\)`)
	outerForm = regexp.MustCompile(`^(1(\|1)*|1(&1)*)$`)
)

func leafSign(word string) string {
	if !leafForm.MatchString(word) || strings.HasPrefix(word, "this->") || strings.HasSuffix(word, "->this") {
		return "0"
	}
	return "1"
}

func deepest(text string) int {
	open, most := 0, 0
	for _, c := range text {
		switch c {
		case '(':
			open++
		case ')':
			open--
		}
		most = max(most, open)
	}
	return most
}

// isRule reads from the inside out, by putting 1 for whatever has been read; the program reads from front to end.
func isRule(text string) bool {
	head := headForm.FindStringSubmatch(text)
	if head == nil || head[1] == "this" || len(text) > 200 || !utf8.ValidString(text) {
		return false
	}
	way := text[len(head[0]):]
	if deepest(way) > 5 {
		return false
	}
	way = wordForm.ReplaceAllStringFunc(way, leafSign)
	for {
		next := innerForm.ReplaceAllString(way, "1")
		if next == way {
			return outerForm.MatchString(way)
		}
		way = next
	}
}

func TestReadRuleAgainstItsForm(t *testing.T) {
	chance := rand.New(rand.NewSource(2))
	pieces := []string{"", "|", "&", "(", ")", "->", "-", ">", "this", "b", "#", "=", " ", "éé", "\uFFFD", "\xff", "|b", "&c", "(b|c)", "(((", ")))", "b->c"}
	right := []string{"a#b=this", "a#b=c|d", "a#b=c&(d|e->f)", "a#b=(((((c)))))", "é#é=(a|(b&(c|(d&(e|this)))))", "doc#reader=this|owner|parent->reader", "a#b=(a&b)|(c&d)"}
	seen := map[bool]int{}
	for range 100000 {
		text := spoilt(chance, right[chance.Intn(len(right))], pieces)
		want := isRule(text)
		seen[want]++
		if _, ok := ReadRule(text); ok != want {
			t.Fatalf("ReadRule(%q): %v, want %v", text, ok, want)
		}
	}
	if seen[true] < 1000 || seen[false] < 1000 {
		t.Errorf("too few were right or wrong: %v", seen)
	}
}
