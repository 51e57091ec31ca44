package words

import (
	"math/rand"
	"regexp"
	"testing"
	"unicode/utf8"
	"unsafe"
)

func TestReadQuestionGivesItsNames(t *testing.T) {
	for text, want := range map[string]Question{
		"group:a#member@user:x":    {Node{"group", "a", "member"}, Node{"user", "x", ""}},
		"group:a#member":           {Node{"group", "a", "member"}, Node{}},
		"é:日本#*@<:/":               {Node{"é", "日本", "*"}, Node{"<", "/", ""}},
		"this:this#this@this:this": {Node{"this", "this", "this"}, Node{"this", "this", ""}},
	} {
		got, ok := ReadQuestion(text)
		if !ok || got != want || got.IsCheck() != (want.Subject != Node{}) {
			t.Errorf("ReadQuestion(%q) = %v, %v, want %v", text, got, ok, want)
		}
	}
}

func TestReadQuestionGivesNothingOfWhatIsNone(t *testing.T) {
	for _, text := range []string{"", "a", "a:b", "a:b#", "a:b#c@", "a:b#c@d", "a:b#c@d:e#f", "a:b#c ", "a:b#c@d:e ", "a:b#c@d:e@f:g", "a:b#c#d", "+a:b#c"} {
		if got, ok := ReadQuestion(text); ok || got != (Question{}) {
			t.Errorf("ReadQuestion(%q) = %v, %v", text, got, ok)
		}
	}
}

var questionForm = regexp.MustCompile(`^` + nameForm + `:` + nameForm + `#` + nameForm + `(@` + nameForm + `:` + nameForm + `)?$`)

func TestReadQuestionAgainstItsForm(t *testing.T) {
	chance := rand.New(rand.NewSource(3))
	pieces := []string{"", ":", "#", "@", "=", "|", "-", " ", "a", "ab", "éé", "12345678", "\uFFFD", "\xff", "\x00", "\x7f", "#r", "@u:v"}
	right := []string{"a:b#c@d:e", "a:b#c", "é:12345678#r@\uFFFD:*", "é:12345678#\uFFFD", "group:a#member@user:x", "group:a#member"}
	seen := map[bool]int{}
	for range 100000 {
		text := spoilt(chance, right[chance.Intn(len(right))], pieces)
		want := utf8.ValidString(text) && questionForm.MatchString(text)
		seen[want]++
		if _, ok := ReadQuestion(text); ok != want {
			t.Fatalf("ReadQuestion(%q): %v, want %v", text, ok, want)
		}
	}
	if seen[true] < 1000 || seen[false] < 1000 {
		t.Errorf("too few were right or wrong: %v", seen)
	}
}

func TestTheThingOfANode(t *testing.T) {
	node := Node{"group", "a", "member"}
	if node.Thing() != (Node{"group", "a", ""}) || !node.Thing().IsThing() || node.IsThing() {
		t.Errorf("the thing of %v is %v", node, node.Thing())
	}
	if node.ThingText() != "group:a" || node.Thing().ThingText() != "group:a" {
		t.Errorf("the thing of %v is written %q", node, node.ThingText())
	}
}

// A clone stays as it is when the memory of the text does not.
func TestACloneHasMemoryOfItsOwn(t *testing.T) {
	for text, want := range map[string]Question{
		"group:a#member@user:x": {Node{"group", "a", "member"}, Node{"user", "x", ""}},
		"group:a#member":        {Node{"group", "a", "member"}, Node{}},
	} {
		bytes := []byte(text)
		read, _ := ReadQuestion(unsafe.String(&bytes[0], len(bytes)))
		clone := read.Clone()
		clear(bytes)
		if clone != want || clone.IsCheck() != want.IsCheck() {
			t.Errorf("the clone of %q has become %v", text, clone)
		}
	}
}
