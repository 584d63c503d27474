package lines

import (
	"bytes"
	"math"
	"regexp"
	"slices"
	"strings"
	"testing"

	"despatch/api"
)

// row gives n bytes that seem to be of no order.
func row(n, first int) []byte {
	b := make([]byte, n)
	x := uint32(first)*2654435761 + 12345
	for i := range b {
		x = x*1664525 + 1013904223
		b[i] = byte(x >> 24)
	}
	return b
}

// textsOf gives all texts of some pieces, up to a number of them.
func textsOf(most int, pieces ...string) []string {
	all, last := []string{""}, []string{""}
	for range most {
		var longer []string
		for _, s := range last {
			for _, piece := range pieces {
				longer = append(longer, s+piece)
			}
		}
		all, last = append(all, longer...), longer
	}
	return all
}

// some gives short texts of all kinds, and longer ones of no order.
func some() []string {
	all := textsOf(6, "a", ".", "\r", "\n", "\r\n")
	for n := range 300 {
		b := row(n, n)
		all = append(all, string(b))
		for i, c := range b {
			b[i] = "ab.\r\n\n."[c%7]
		}
		all = append(all, string(b))
	}
	return all
}

// ends is what becomes a line's end in whole lines: one of its bytes, or both.
var ends = regexp.MustCompile("\r\n|\r|\n")

// slowLaid is Whole, and a line's end behind, if there is any byte and no end.
func slowLaid(b string) string {
	s := ends.ReplaceAllString(b, "\r\n")
	if s != "" && !strings.HasSuffix(s, "\r\n") {
		s += "\r\n"
	}
	return s
}

// slowStuff is Stuff, line by line.
func slowStuff(b string) string {
	all := strings.SplitAfter(slowLaid(b), "\r\n")
	for i, line := range all {
		if strings.HasPrefix(line, ".") {
			all[i] = "." + line
		}
	}
	return strings.Join(all, "") + ".\r\n"
}

// slowUnstuff is Unstuff, by all lines that there are.
func slowUnstuff(b string) (mail, rest string, ok bool) {
	all := strings.SplitAfter(b, "\r\n")
	at := slices.Index(all, ".\r\n")
	if at < 0 {
		return "", "", false
	}
	for _, line := range all[:at] {
		mail += strings.TrimPrefix(line, ".")
	}
	return mail, strings.Join(all[at+1:], ""), true
}

func TestWhole(t *testing.T) { // P8.1
	for b, want := range map[string]string{
		"": "", "a": "a", "a\nb": "a\r\nb", "a\rb": "a\r\nb", "a\r\nb": "a\r\nb", "\r": "\r\n", "\n": "\r\n", "\r\n": "\r\n",
		"\n\r": "\r\n\r\n", "\r\r": "\r\n\r\n", "\n\n": "\r\n\r\n", "\r\r\n\n": "\r\n\r\n\r\n", "\r\n\r\n": "\r\n\r\n", "a\r": "a\r\n",
		"\r \n": "\r\n \r\n", "\x00\x0b\x0c\u0085\u2028\xff": "\x00\x0b\x0c\u0085\u2028\xff",
	} {
		if got := string(Whole([]byte(b))); got != want {
			t.Errorf("%q: %q, want %q", b, got, want)
		}
	}
	for _, b := range some() {
		got := string(Whole([]byte(b)))
		if want := ends.ReplaceAllString(b, "\r\n"); got != want {
			t.Errorf("%q: %q, want %q", b, got, want)
		}
		if again := string(Whole([]byte(got))); again != got {
			t.Errorf("%q: made whole again %q", got, again)
		}
	}
}

func TestSplitKnown(t *testing.T) { // P8.1: CR and LF together end a line, and neither alone
	for b, want := range map[string][]string{
		"":                  {""},
		"a":                 {"a"},
		"\r\n":              {"", ""},
		"a\r\n":             {"a", ""},
		"a\r\nb":            {"a", "b"},
		"\r\n\r\n":          {"", "", ""},
		"a\nb\r":            {"a\nb\r"},
		"a\r\n\r\nb\nc\r":   {"a", "", "b\nc\r"},
		"\r\r\n\n":          {"\r", "\n"},
		"\n\r\n\r":          {"\n", "\r"},
		"\r\n.\r\n\xff\r\n": {"", ".", "\xff", ""},
	} {
		list, rest := Split([]byte(b))
		var got []string
		for _, line := range append(list, rest) {
			got = append(got, string(line))
		}
		if !slices.Equal(got, want) {
			t.Errorf("%q: %q, want %q", b, got, want)
		}
	}
}

func TestSplit(t *testing.T) { // P8.1
	for _, b := range some() {
		list, rest := Split([]byte(b))
		want := strings.Split(b, "\r\n")
		last := len(want) - 1
		if string(rest) != want[last] || !slices.EqualFunc(list, want[:last], func(line []byte, s string) bool { return string(line) == s }) {
			t.Errorf("%q: %q, %q, want %q", b, list, rest, want)
		}
	}
}

func TestPlaceKnown(t *testing.T) { // P8.1: LFs alone are counted, and what is out of bounds is moved into them
	const b = "a\r\n\rb\n\ncd"
	for at, want := range map[int][2]int{
		math.MinInt: {0, 0}, -1: {0, 0}, 0: {0, 0}, 1: {0, 1}, 2: {0, 2}, 3: {1, 0}, 4: {1, 1}, 5: {1, 2}, 6: {2, 0},
		7: {3, 0}, 8: {3, 1}, 9: {3, 2}, 10: {3, 2}, math.MaxInt: {3, 2},
	} {
		if line, column := Place([]byte(b), at); [2]int{line, column} != want {
			t.Errorf("%d: %d, %d, want %d", at, line, column, want)
		}
	}
	for _, at := range []int{math.MinInt, -1, 0, 1, math.MaxInt} {
		if line, column := Place(nil, at); line != 0 || column != 0 {
			t.Errorf("of nothing at %d: %d, %d", at, line, column)
		}
	}
	if line, column := Place([]byte("a\n"), 2); line != 1 || column != 0 {
		t.Errorf("behind all: %d, %d", line, column)
	}
}

func TestPlace(t *testing.T) { // P8.1
	for _, b := range some() {
		if len(b) > 6 && len(b)%7 != 0 {
			continue // a few of the longer ones are enough
		}
		for at := -2; at <= len(b)+2; at++ {
			ahead := b[:max(0, min(at, len(b)))]
			line, column := Place([]byte(b), at)
			if line != strings.Count(ahead, "\n") || column != len(ahead)-1-strings.LastIndex(ahead, "\n") {
				t.Errorf("%q at %d: %d, %d", b, at, line, column)
			}
		}
	}
}

func TestPlaceMany(t *testing.T) { // P8.1: more lines, and longer ones, than a float of 32 bits can count
	const many = 1<<24 + 3
	b := bytes.Repeat([]byte{'\n'}, many)
	if line, column := Place(b, many); line != many || column != 0 {
		t.Errorf("lines: %d, %d", line, column)
	}
	for i := range b[1:] {
		b[i+1] = '\r'
	}
	if line, column := Place(b, many); line != 1 || column != many-1 {
		t.Errorf("bytes of a line: %d, %d", line, column)
	}
}

func TestStuffKnown(t *testing.T) { // P8.2, and the chapter's example
	for b, want := range map[string]string{
		"":               ".\r\n",
		"a":              "a\r\n.\r\n",
		".a":             "..a\r\n.\r\n",
		".":              "..\r\n.\r\n",
		"..":             "...\r\n.\r\n",
		"a.":             "a.\r\n.\r\n",
		"a\n.b":          "a\r\n..b\r\n.\r\n",
		"a\r.b":          "a\r\n..b\r\n.\r\n",
		"a\r\n":          "a\r\n.\r\n",
		"a\n":            "a\r\n.\r\n",
		"a\r":            "a\r\n.\r\n",
		"\r\n":           "\r\n.\r\n",
		"\n\r":           "\r\n\r\n.\r\n",
		"a\r\n.\r\nb":    "a\r\n..\r\nb\r\n.\r\n",
		"\r\n.\r\n\r\n.": "\r\n..\r\n\r\n..\r\n.\r\n",
		" .\r\n\x00.":    " .\r\n\x00.\r\n.\r\n",
	} {
		if got := string(Stuff([]byte(b))); got != want {
			t.Errorf("%q: %q, want %q", b, got, want)
		}
	}
}

func TestStuff(t *testing.T) { // P8.2
	for _, b := range some() {
		if got, want := string(Stuff([]byte(b))), slowStuff(b); got != want {
			t.Errorf("%q: %q, want %q", b, got, want)
		}
	}
}

func TestUnstuffKnown(t *testing.T) { // P8.2: lines as Split tells them
	for b, want := range map[string][2]string{
		".\r\n":                        {"", ""},
		".\r\n.\r\n":                   {"", ".\r\n"},
		"a\r\n.\r\n":                   {"a\r\n", ""},
		"a\r\n.\r\nQUIT\r\n":           {"a\r\n", "QUIT\r\n"},
		"..a\r\n.b\r\n.\r\nQUIT\r\n":   {".a\r\nb\r\n", "QUIT\r\n"},
		"..\r\n...\r\n.\r\n.":          {".\r\n..\r\n", "."},
		"\r\n\r\n.\r\n\r\n":            {"\r\n\r\n", "\r\n"},
		"a\n.\r\n.\r\n":                {"a\n.\r\n", ""},
		".\n.\r\n.\r\n":                {"\n.\r\n", ""},
		".\r\r\n.\r\n":                 {"\r\r\n", ""},
		"a\r.\r\n\r.\r\n.\r\nb\r":      {"a\r.\r\n\r.\r\n", "b\r"},
		". \r\n .\r\n.\r\n":            {" \r\n .\r\n", ""},
		"a.b.\r\n.\r\n\xff.\r\n.c\r\n": {"a.b.\r\n", "\xff.\r\n.c\r\n"},
	} {
		mail, rest, code := Unstuff([]byte(b))
		if [2]string{string(mail), string(rest)} != want || code != api.OK {
			t.Errorf("%q: %q, %q, %v, want %q", b, mail, rest, code, want)
		}
	}
	for _, b := range []string{"", "a", ".", ".\r", ".\n", "\r\n", "a\r\n", "a\r\n.", "a\r\n.\r", "a\r\n.\n", "a\n.\r\n", ".\n\r\n", ".\r.\r\n", "..\r\n", " .\r\n", ". \r\n", "a.\r\n", ".\r\r\n", "..\r\n.a\r\n."} {
		if mail, rest, code := Unstuff([]byte(b)); code != api.ErrNone || mail != nil || rest != nil {
			t.Errorf("%q: %q, %q, %v", b, mail, rest, code)
		}
	}
}

func TestUnstuff(t *testing.T) { // P8.2
	for _, b := range some() {
		mail, rest, code := Unstuff([]byte(b))
		wantMail, wantRest, ok := slowUnstuff(b)
		if ok && (code != api.OK || string(mail) != wantMail || string(rest) != wantRest) {
			t.Errorf("%q: %q, %q, %v, want %q, %q", b, mail, rest, code, wantMail, wantRest)
		}
		if !ok && (code != api.ErrNone || mail != nil || rest != nil) {
			t.Errorf("%q: %q, %q, %v, want ErrNone", b, mail, rest, code)
		}
	}
}

func TestBack(t *testing.T) { // P8.3
	try := func(b, behind string) {
		t.Helper()
		mail, rest, code := Unstuff(append(Stuff([]byte(b)), behind...))
		if code != api.OK || string(mail) != slowLaid(b) || string(rest) != behind {
			t.Errorf("%.40q, and %.40q: %.40q, %.40q, %v", b, behind, mail, rest, code)
		}
	}
	texts := textsOf(3, "a", ".", "\r", "\n", "\r\n")
	for _, b := range texts {
		for _, behind := range texts {
			try(b, behind)
		}
	}
	for i, b := range some() {
		try(b, string(row(i%30, i)))
	}
	for _, b := range []string{".", "\r", "\n", "\r\n", ".\r\n", "a\n.", "\r.\n"} {
		try(strings.Repeat(b, api.MaxMail/len(b)), ".\r\nbehind")
	}
}

func TestNothing(t *testing.T) { // P1, P8.1, P8.2
	for _, b := range [][]byte{nil, {}} {
		if got := Whole(b); len(got) != 0 {
			t.Errorf("%q", got)
		}
		if list, rest := Split(b); len(list) != 0 || len(rest) != 0 {
			t.Errorf("%q, %q", list, rest)
		}
		if got := Stuff(b); string(got) != ".\r\n" {
			t.Errorf("%q", got)
		}
		if mail, rest, code := Unstuff(b); code != api.ErrNone || mail != nil || rest != nil {
			t.Errorf("%q, %q, %v", mail, rest, code)
		}
	}
}

// answers gives all lists that the calls answer of bytes, which have to be a mail on a line.
func answers(b []byte) [][]byte {
	list, rest := Split(b)
	mail, behind, _ := Unstuff(b)
	return append(list, rest, mail, behind, Whole(b), Stuff(b))
}

// copies gives copies of lists.
func copies(lists [][]byte) [][]byte {
	var made [][]byte
	for _, b := range lists {
		made = append(made, bytes.Clone(b))
	}
	return made
}

func TestMemory(t *testing.T) { // P2, and rule 4: arguments stay as they are, and answers are new memory
	for _, text := range []string{"first\r\n..second\r\nthird\r\n.\r\nbehind", "a\r\n.\r\nb", "\n\r.\n\r\n.\r\n\r\n.c\r"} {
		room := []byte("ahead" + text + "\n\n\nspare")
		b := room[5 : 5+len(text)]
		made := answers(b)
		if string(room) != "ahead"+text+"\n\n\nspare" {
			t.Errorf("%q: the argument was changed to %q", text, room)
		}
		kept := copies(made)
		clear(room)
		for i := range made {
			if !bytes.Equal(made[i], kept[i]) {
				t.Errorf("%q: answer %d changes with the argument", text, i)
			}
		}
		// Each answer is put to nought, with the room behind it: the others stay as they are.
		for i := range made {
			clear(made[i][:cap(made[i])])
			for k := i + 1; k < len(made); k++ {
				if !bytes.Equal(made[k], kept[k]) {
					t.Errorf("%q: answer %d changes with answer %d", text, k, i)
				}
			}
		}
		for i, again := range answers([]byte(text)) {
			if !bytes.Equal(again, kept[i]) {
				t.Errorf("%q: the same call %d gives another answer", text, i)
			}
		}
	}
}
