package words

import (
	"math/rand"
	"regexp"
	"strings"
	"testing"
	"unicode/utf8"
)

func TestReadTupleGivesItsNames(t *testing.T) {
	for text, want := range map[string]Tuple{
		"group:a#member@user:x":         {Node{"group", "a", "member"}, Node{"user", "x", ""}},
		"group:a#member@group:b#member": {Node{"group", "a", "member"}, Node{"group", "b", "member"}},
		"é:日本#*@<:/#\uFFFD":             {Node{"é", "日本", "*"}, Node{"<", "/", "\uFFFD"}},
		"this:this#this@this:this#this": {Node{"this", "this", "this"}, Node{"this", "this", "this"}},
	} {
		got, ok := ReadTuple(text)
		if !ok || got != want {
			t.Errorf("ReadTuple(%q) = %v, %v, want %v", text, got, ok, want)
		}
	}
}

func TestReadTupleGivesNothingOfWhatIsNone(t *testing.T) {
	for _, text := range []string{"", "a:b#c", "a:b#c@d", "a:b#c@d:e#f ", "a:b#c@d:e@f:g"} {
		if got, ok := ReadTuple(text); ok || got != (Tuple{}) {
			t.Errorf("ReadTuple(%q) = %v, %v", text, got, ok)
		}
	}
}

// Every rune of one byte and some edges of the greater ones, in a name's front, middle and end.
func TestWhichRunesANameMayHave(t *testing.T) {
	runes := []rune{0x80, 0x85, 0xa0, 0x7ff, 0x800, 0x2003, 0xd7ff, 0xe000, 0xfeff, 0xfffd, 0xffff, 0x10000, 0x10ffff}
	for c := range rune(128) {
		runes = append(runes, c)
	}
	for _, c := range runes {
		want := c >= 33 && c != 127 && !strings.ContainsRune(":#@=|&()>+-", c)
		for _, name := range []string{string(c), string(c) + "x", "x" + string(c) + "x", "x" + string(c), strings.Repeat(string(c), 8)} {
			r := reader{rest: name}
			if r.name(); r.ended() != want {
				t.Errorf("the rune %U in the name %q: %v, want %v", c, name, r.ended(), want)
			}
		}
	}
}

func TestBytesThatAreNoRunes(t *testing.T) {
	broken := []string{"\x80", "\xbf", "\xc0\x80", "\xc1\xbf", "\xc3", "\xe0\x80\x80", "\xe2\x82", "\xed\xa0\x80", "\xed\xbf\xbf", "\xef\xbf", "\xef\xbf\xbd\xbd", "\xf0\x80\x80\x80", "\xf0\x9f\x98", "\xf4\x90\x80\x80", "\xf5\x80\x80\x80", "\xfe", "\xff"}
	for _, bytes := range broken {
		for _, name := range []string{bytes, bytes + "x", "x" + bytes, "x" + bytes + "x", "\uFFFD" + bytes, bytes + "\uFFFD"} {
			r := reader{rest: name}
			if r.name(); r.ended() {
				t.Errorf("%q is read as a name", name)
			}
		}
	}
}

func TestHowLongANameMayBe(t *testing.T) {
	for _, c := range []string{"x", "é", "日", "\U0001F600", "\uFFFD"} {
		for count, want := range map[int]bool{0: false, 1: true, 7: true, 8: true, 9: false, 1000000: false} {
			r := reader{rest: strings.Repeat(c, count)}
			if r.name(); r.ended() != want {
				t.Errorf("a name of %d times %q: %v, want %v", count, c, r.ended(), want)
			}
		}
	}
}

const nameForm = `[^:#@=|&()>+\-\x00-\x20\x7f]{1,8}`

var tupleForm = regexp.MustCompile(`^` + nameForm + `:` + nameForm + `#` + nameForm + `@` + nameForm + `:` + nameForm + `(#` + nameForm + `)?$`)

// spoilt changes a text at a few places by pieces of a list, most often by none.
func spoilt(chance *rand.Rand, text string, pieces []string) string {
	for range chance.Intn(3) {
		from := chance.Intn(len(text) + 1)
		to := min(len(text), from+chance.Intn(3))
		text = text[:from] + pieces[chance.Intn(len(pieces))] + text[to:]
	}
	return text
}

func TestReadTupleAgainstItsForm(t *testing.T) {
	chance := rand.New(rand.NewSource(1))
	pieces := []string{"", ":", "#", "@", "=", "|", "-", " ", "a", "ab", "éé", "12345678", "\uFFFD", "\xff", "\x00", "\x7f", "#r", "@u:v"}
	right := []string{"a:b#c@d:e", "a:b#c@d:e#f", "é:12345678#r@\uFFFD:*", "group:a#member@group:b#member"}
	seen := map[bool]int{}
	for range 100000 {
		text := spoilt(chance, right[chance.Intn(len(right))], pieces)
		want := utf8.ValidString(text) && tupleForm.MatchString(text)
		seen[want]++
		if _, ok := ReadTuple(text); ok != want {
			t.Fatalf("ReadTuple(%q): %v, want %v", text, ok, want)
		}
	}
	if seen[true] < 1000 || seen[false] < 1000 {
		t.Errorf("too few were right or wrong: %v", seen)
	}
}
