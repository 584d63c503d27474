package token

import (
	"fmt"
	"regexp"
	"slices"
	"strings"
	"testing"

	"despatch/api"
)

// dice gives numbers that seem to be of no order, each from 0 to one less than asked.
func dice(first int) func(n int) int {
	x := uint32(first)*2654435761 + 12345
	return func(n int) int {
		x = x*1664525 + 1013904223
		return int(x>>8) % n
	}
}

// textsOf gives all texts of some pieces, up to a number of them.
func textsOf(most int, pieces ...string) []string {
	all, last := []string{""}, []string{""}
	for range most {
		var longer []string
		for _, s := range last {
			for _, piece := range pieces {
				longer = append(longer, s+piece)
			}
		}
		all, last = append(all, longer...), longer
	}
	return all
}

// someOf gives texts of no order, each of some pieces.
func someOf(many, most int, pieces ...string) []string {
	var all []string
	for n := range many {
		roll, s := dice(n), ""
		for range roll(most + 1) {
			s += pieces[roll(len(pieces))]
		}
		all = append(all, s)
	}
	return all
}

// What values have, as patterns; (?s) and the bytes' numbers are for bytes of all kinds.
const (
	atomSign  = "[!#$%&'*+\\-0-9A-Z^_`a-z{|}~]"
	atomForm  = atomSign + "+"
	dotForm   = atomForm + `(?:\.` + atomForm + `)*`
	addrForm  = dotForm + "@" + dotForm
	wordForm  = "(?:" + atomSign + "|[./:?])+"
	quoteForm = `"(?:[\x20-\x21\x23-\x5b\x5d-\x7e\t]|\\[\x20-\x7e\t])*"`
)

var (
	quoteAny   = regexp.MustCompile(`(?s)\A"(?:[^"\\]|\\.)*"`)
	addrAlone  = regexp.MustCompile(`\A` + addrForm + `\z`)
	addrAngled = regexp.MustCompile(`(?s)\A.*<[ \t]*(` + addrForm + `)[ \t]*>\z`)
	idsWhole   = regexp.MustCompile(`\A(?:[ \t]*<[!-;=?-~]+>)*[ \t]*\z`)
	idsOne     = regexp.MustCompile(`<([^>]*)>`)
	kindForm   = regexp.MustCompile(`\A[ \t]*(` + atomForm + `/` + atomForm + `)[ \t]*`)
	paramForm  = regexp.MustCompile(`\A;[ \t]*(` + atomForm + `)[ \t]*=[ \t]*(` + wordForm + `|` + quoteForm + `)[ \t]*`)
	wordAlone  = regexp.MustCompile(`\A` + wordForm + `\z`)
	escaped    = regexp.MustCompile(`\\(.)`)
)

// latin gives bytes as runes of the same numbers, as patterns look at runes.
func latin(s string) string {
	var r []rune
	for _, c := range []byte(s) {
		r = append(r, rune(c))
	}
	return string(r)
}

// bytesOf gives runes as bytes of the same numbers.
func bytesOf(s string) string {
	var b []byte
	for _, r := range s {
		b = append(b, byte(r))
	}
	return string(b)
}

// slowComment gives what is behind a comment, as the chapter tells it: comments in one another by calls in one another.
func slowComment(s string, others int) (rest string, code api.Errno) {
	if others > 8 {
		return "", api.ErrDeep
	}
	s = s[1:]
	for s != "" {
		switch s[0] {
		case ')':
			return s[1:], api.OK
		case '(':
			if s, code = slowComment(s, others+1); code != api.OK {
				return "", code
			}
		case '\\':
			s = s[min(2, len(s)):]
		default:
			s = s[1:]
		}
	}
	return "", api.ErrForm
}

// slowBare is Bare, piece by piece.
func slowBare(s string) (bare string, code api.Errno) {
	for s != "" {
		switch s[0] {
		case '(':
			if s, code = slowComment(s, 0); code != api.OK {
				return "", code
			}
			bare += " "
		case ')':
			return "", api.ErrForm
		case '"':
			found := bytesOf(quoteAny.FindString(latin(s)))
			if found == "" {
				return "", api.ErrForm
			}
			bare, s = bare+found, s[len(found):]
		default:
			bare, s = bare+s[:1], s[1:]
		}
	}
	return bare, api.OK
}

// slowAddress is Address, by patterns.
func slowAddress(s string) (string, api.Errno) {
	bare, code := slowBare(s)
	if code != api.OK {
		return "", code
	}
	text := strings.Trim(bare, " \t")
	if found := addrAngled.FindStringSubmatch(latin(text)); found != nil {
		text = found[1]
	} else if !addrAlone.MatchString(text) {
		return "", api.ErrForm
	}
	who, where, _ := strings.Cut(text, "@")
	return who + "@" + strings.ToLower(where), api.OK
}

// slowIds is Ids, by patterns.
func slowIds(s string) (list []string, code api.Errno) {
	bare, code := slowBare(s)
	if code != api.OK {
		return nil, code
	}
	if !idsWhole.MatchString(bare) {
		return nil, api.ErrForm
	}
	for _, found := range idsOne.FindAllStringSubmatch(bare, -1) {
		list = append(list, found[1])
	}
	return list, api.OK
}

// slowParams is Params, by patterns.
func slowParams(s string) (kind string, list []api.Param, code api.Errno) {
	bare, code := slowBare(s)
	if code != api.OK {
		return "", nil, code
	}
	found := kindForm.FindStringSubmatch(bare)
	if found == nil {
		return "", nil, api.ErrForm
	}
	kind, bare = strings.ToLower(found[1]), bare[len(found[0]):]
	for bare != "" {
		found := paramForm.FindStringSubmatch(bare)
		if found == nil {
			return "", nil, api.ErrForm
		}
		value := found[2]
		if value[0] == '"' {
			value = escaped.ReplaceAllString(value[1:len(value)-1], "$1")
		}
		list, bare = append(list, api.Param{Name: strings.ToLower(found[1]), Value: value}), bare[len(found[0]):]
	}
	return kind, list, api.OK
}

// short gives a text's beginning, and how long it is.
func short(s string) string { return fmt.Sprintf("%.60q (%d)", s, len(s)) }

// try holds all that reads a value against the slow ones.
func try(t *testing.T, s string) {
	t.Helper()
	bare, code := Bare(s)
	if want, wrong := slowBare(s); bare != want || code != wrong {
		t.Errorf("Bare of %s: %s, %v, want %s, %v", short(s), short(bare), code, short(want), wrong)
	}
	address, code := Address(s)
	if want, wrong := slowAddress(s); address != want || code != wrong {
		t.Errorf("Address of %s: %q, %v, want %q, %v", short(s), address, code, want, wrong)
	}
	ids, code := Ids(s)
	if want, wrong := slowIds(s); !slices.Equal(ids, want) || code != wrong || code != api.OK && ids != nil {
		t.Errorf("Ids of %s: %q, %v, want %q, %v", short(s), ids, code, want, wrong)
	}
	kind, list, code := Params(s)
	if want, wantList, wrong := slowParams(s); kind != want || !slices.Equal(list, wantList) || code != wrong || code != api.OK && list != nil {
		t.Errorf("Params of %s: %q, %q, %v, want %q, %q, %v", short(s), kind, list, code, want, wantList, wrong)
	}
}

func TestAtom(t *testing.T) { // P10.1
	for i := range 256 {
		c := string([]byte{byte(i)})
		want := i >= 33 && i <= 126 && !slices.Contains([]byte("()<>@,;:\\\"/[]?=."), byte(i))
		for _, s := range []string{c, c + "a", "a" + c, "a" + c + "a"} {
			if Atom(s) != want {
				t.Errorf("%q: not %v", s, want)
			}
		}
	}
	if Atom("") || !Atom(strings.Repeat("a", 1<<16)) || Atom(strings.Repeat("a", 1<<16)+".") {
		t.Error("by its length")
	}
}

func TestBareKnown(t *testing.T) { // P10.1
	deep := func(n int) string { return strings.Repeat("(", n) + strings.Repeat(")", n) }
	for s, want := range map[string]string{
		"": "", "a": "a", " \ta ": " \ta ", "()": " ", "(a)": " ", "(a)(b)": "  ", "a(b)c": "a c", "a (b) c": "a   c", "(a(b)c)d": " d", "((()))": " ",
		"a (b (c) \\) d) e": "a   e", "(\\()": " ", "(\\))": " ", "(\\\\)": " ", "(\\\\\\))a": " a", "(\\a)": " ", "(\\\x00)": " ", "(\x00\xff\r\n)": " ", "(\")": " ",
		`"(\""  x`: `"(\""  x`, `"a"`: `"a"`, `""`: `""`, `"("`: `"("`, `")"`: `")"`, `"(" (") ")"`: `"("   ")"`, `"\\"`: `"\\"`, `"\\"()`: `"\\" `, `"\)"`: `"\)"`, `"\a"`: `"\a"`,
		"\"\x00\xff\r\n\\\x00\"": "\"\x00\xff\r\n\\\x00\"", `""""`: `""""`,
		`\`: `\`, `\(a)`: `\ `, `\"a(b)"`: `\"a(b)"`, `\\`: `\\`, "a\x00\xff\r\nb": "a\x00\xff\r\nb", "<a> [b]": "<a> [b]",
		deep(9): " ", deep(9) + deep(9): "  ", "(" + strings.Repeat("()", 50) + ")": " ", strings.Repeat(`(\(`, 9) + strings.Repeat(")", 9): " ",
		`"` + deep(20) + `"`: `"` + deep(20) + `"`,
	} {
		if bare, code := Bare(s); bare != want || code != api.OK {
			t.Errorf("%q: %q, %v, want %q", s, bare, code, want)
		}
	}
}

func TestBareWrong(t *testing.T) { // P10.1: what is met first
	open := func(n int) string { return strings.Repeat("(", n) }
	for s, want := range map[string]api.Errno{
		"(": api.ErrForm, "(a": api.ErrForm, "(()": api.ErrForm, "(\\)": api.ErrForm, "(\\": api.ErrForm, "(\\\\": api.ErrForm, ")": api.ErrForm, "a)": api.ErrForm, "())": api.ErrForm, "(a) )": api.ErrForm, "\\)": api.ErrForm,
		`"`: api.ErrForm, `"a`: api.ErrForm, `"\"`: api.ErrForm, `"\`: api.ErrForm, `"a" "`: api.ErrForm, `(")"`: api.ErrForm, `("(") ")"`: api.ErrForm, `"""`: api.ErrForm, `"\\\"`: api.ErrForm, `")`: api.ErrForm,
		open(9): api.ErrForm, open(10): api.ErrDeep, open(11): api.ErrDeep, open(100): api.ErrDeep,
		open(10) + strings.Repeat(")", 10): api.ErrDeep, open(9) + ")()" + strings.Repeat(")", 8) + "(": api.ErrForm, open(9) + ")((": api.ErrDeep,
		")" + open(10): api.ErrForm, `"` + open(10): api.ErrForm, open(9) + `\(`: api.ErrForm, open(9) + `"(`: api.ErrDeep, `"a" ` + open(10) + `"`: api.ErrDeep, `"" "\"` + open(10): api.ErrForm,
		open(10) + ")": api.ErrDeep, "() " + open(9): api.ErrForm, strings.Repeat("()", 20) + ")" + open(10): api.ErrForm,
	} {
		if bare, code := Bare(s); bare != "" || code != want {
			t.Errorf("%q: %q, %v, want %v", s, bare, code, want)
		}
		// The others have that error, too, whatever else is wrong.
		if a, code := Address("a@b" + s); a != "" || code != want {
			t.Errorf("Address of %q: %q, %v, want %v", "a@b"+s, a, code, want)
		}
		if list, code := Ids("<<" + s); list != nil || code != want {
			t.Errorf("Ids of %q: %q, %v, want %v", "<<"+s, list, code, want)
		}
		if kind, list, code := Params("a/b;" + s); kind != "" || list != nil || code != want {
			t.Errorf("Params of %q: %q, %q, %v, want %v", "a/b;"+s, kind, list, code, want)
		}
	}
}

func TestShort(t *testing.T) { // P10.1, P10.2, P10.3: all short texts
	for _, s := range textsOf(7, "(", ")", "\\", "\"", "a") {
		try(t, s)
	}
	for _, s := range textsOf(6, "a", ".", "@", "<", ">", " ") {
		try(t, s)
	}
	for _, s := range textsOf(5, "a/B", ";", "=", " ", "C", "\"d\"", "?") {
		try(t, s)
		try(t, "a/b;"+s)
		try(t, "a/b; c=\""+s+"\"")
	}
}

func TestDeep(t *testing.T) { // P10.1: comments in one another, as deep as they may be, and deeper
	for _, s := range textsOf(7, "((", "))", "(", ")", "\\") {
		try(t, s)
		try(t, strings.Repeat("(", 7)+s)
	}
}

func TestBytes(t *testing.T) { // P10.1, P10.2, P10.3: each byte at each place
	for i := range 256 {
		c := string([]byte{byte(i)})
		for _, around := range []string{
			"~", "a~", "~a", "a~b", "\"~\"", "\"\\~\"", "(~)", "(\\~)", "\\~",
			"~a@b", "a~@b", "a@~b", "a@b~", "<~a@b>", "<a~@b>", "<a@b~>", "~<a@b>", "<a@b>~", "<~<a@b>", "<a~b@c>", "\"~\"<a@b>",
			"<~>", "<a~>", "<~a>", "<a~b>", "~<a>", "<a>~", "<a>~<b>", "<a><b~>",
			"~a/b", "a~/b", "a/~b", "a/b~", "a/b~;c=d", "a/b;~c=d", "a/b;c~=d", "a/b;c=~d", "a/b;c=d~", "a/b;c=~", "a/b;~=d", "a/~", "~/b", "a/b;c=\"~\"", "a/b;c=\"\\~\"", "a/b;c=\"d\"~", "a/b;c=d~;e=f", "a/b;c=d;e~f=g", "a/b~c", "a~b", "a/b;c=d~e",
		} {
			try(t, strings.ReplaceAll(around, "~", c))
		}
	}
}

func TestSome(t *testing.T) { // P10.1, P10.2, P10.3: longer texts
	for _, s := range someOf(20000, 14, "a", "B.c", "@", "<", ">", " ", "\t", "(x)", "((y) \\)", "\"z <\"", "\"\\\"\"", "<a@B>", "a@B.C", "\\", "\xff", ",") {
		try(t, s)
	}
	for _, s := range someOf(20000, 8, ";", "=", " ", "\t", "(x)", "; C=d", ";e=\"f\\\"\\g\"", "H", "1/2", "\"i\"", " ; j = k ", "; l=", ".", ";m=\"(\"") {
		try(t, "T/b"+s)
		try(t, " T/b"+s+" ")
	}
}

func TestAddressKnown(t *testing.T) { // P10.2, and the chapter's example
	for s, want := range map[string]string{
		"Ann (x) <a.b@C.d>": "a.b@c.d", "a@b": "a@b", " A.b@C.D (x)": "A.b@c.d", "\t a@b \t": "a@b", "(x)a@b(y)": "a@b", "<a@b>": "a@b", " < \ta@b\t > ": "a@b", "<(x)a@b(y)>": "a@b", "<a@b>(x)": "a@b",
		"\"x <\" < a@b >": "a@b", "\"x\" <a@b>": "a@b", "<x> <a@b>": "a@b", "<<a@b>": "a@b", "<\"x\"<a@b>": "a@b", "c@d <a@b>": "a@b", "@@, : ; .\x00\xff\r\n<a@b>": "a@b", "> <a@b>": "a@b",
		"A!#$%&'*+-^_`{|}~9@Z-9.X~": "A!#$%&'*+-^_`{|}~9@z-9.x~", "AZ@AZ": "AZ@az", "a.b.c.d@e.f.g": "a.b.c.d@e.f.g", "A@B^[": "", // [ is of no atom
	} {
		code := api.OK
		if want == "" {
			code = api.ErrForm
		}
		if a, got := Address(s); a != want || got != code {
			t.Errorf("%q: %q, %v, want %q", s, a, got, want)
		}
		try(t, s)
	}
}

func TestAddressWrong(t *testing.T) { // P10.2
	for _, s := range []string{
		"", " ", "()", "a", "@", "a@", "@b", "a@@b", "a@b@c", "a b@c", "a @b", "a@ b", "a(x)@b", "a@(x)b", "a@b c@d", "a@b, c@d", "a@b,", "a@b;", "a:b@c", "a@b:25", "a@[1.2.3.4]", "a/b@c",
		".a@b", "a.@b", "a..b@c", "a@.b", "a@b.", "a@b..c", ".@.", "a. b@c", "\"a\"@b", "a@\"b\"", "\u00e9@b", "a@\u00e9", "a@b\x00", "a@b\r\n", "a\x7f@b", "\va@b",
		"<>", "< >", ">", "a@b>", "<a@b", "<a@b> x", "<a@b>, <c@d>x", "<a@b> .", "<a>b@c", "<a@b>>", "<a@b>\"\"", "<a @b>", "x <a@b <", "<@a:b@c>", "\"<a@b>\"", "<\"a\"@b>", "a@b <>", "a@b < >", "<a@b> <", "\\<a@b\\>",
	} {
		if a, code := Address(s); a != "" || code != api.ErrForm {
			t.Errorf("%q: %q, %v", s, a, code)
		}
		try(t, s)
	}
}

func TestIdsKnown(t *testing.T) { // P10.2
	for s, want := range map[string][]string{
		"": nil, " \t ": nil, "(x)": nil, "<a>": {"a"}, "<a><b>": {"a", "b"}, " <a@b>(x)<c>\t": {"a@b", "c"}, "\t<a>  \t <b> ": {"a", "b"}, "<a> <a>": {"a", "a"}, "(x)<a>(y) (z)<b>": {"a", "b"},
		"<!;=?~@.,:\\/[]>": {"!;=?~@.,:\\/[]"}, "<\"a(b)\"@c>": {"\"a(b)\"@c"}, "<a\"b> <c\"d>": {"a\"b", "c\"d"}, "<A@B>": {"A@B"},
	} {
		if list, code := Ids(s); !slices.Equal(list, want) || code != api.OK {
			t.Errorf("%q: %q, %v, want %q", s, list, code, want)
		}
		try(t, s)
	}
	many := strings.Repeat("<"+strings.Repeat("a", 300)+"> ", 3000)
	if list, code := Ids(many); len(list) != 3000 || code != api.OK {
		t.Errorf("%d, %v", len(list), code)
	}
}

func TestIdsWrong(t *testing.T) { // P10.2
	for _, s := range []string{
		"<>", "< >", "a", "<a", "a>", ">", "<", "<a <b>", "<a>b", "a<b>", "<a>,<b>", "<a><", "<a>>", "<<a>", "<<a>>", "< a>", "<a >", "<a b>", "<a(x)b>", "<a\tb>", "<a\x00>", "<a\x7f>", "<\u00e9>", "<a>\r\n<b>", "<a>\n", "<a><>", "<\"a b\">", "<\"a>b\">", "\"<a>\"", "<a>.", "><a>",
	} {
		if list, code := Ids(s); list != nil || code != api.ErrForm {
			t.Errorf("%q: %q, %v", s, list, code)
		}
		try(t, s)
	}
}

func TestParamsKnown(t *testing.T) { // P10.3, and the chapter's example
	type params struct {
		kind string
		list []api.Param
	}
	for s, want := range map[string]params{
		"a/b":                         {"a/b", nil},
		" \tA/B-C+d\t ":               {"a/b-c+d", nil},
		"(x)a/b(y)":                   {"a/b", nil},
		"a/b; c=\"d e\"":              {"a/b", []api.Param{{Name: "c", Value: "d e"}}},
		"a/b;c=d":                     {"a/b", []api.Param{{Name: "c", Value: "d"}}},
		"a/b \t;\t C \t=\t D \t;e=f ": {"a/b", []api.Param{{Name: "c", Value: "D"}, {Name: "e", Value: "f"}}},
		"a/b(1);(2)c(3)=(4)d(5);(6)e(7)=\"f\"(8)": {"a/b", []api.Param{{Name: "c", Value: "d"}, {Name: "e", Value: "f"}}},
		"a/b;c=d;C=e;c=d":                         {"a/b", []api.Param{{Name: "c", Value: "d"}, {Name: "c", Value: "e"}, {Name: "c", Value: "d"}}},
		"a/b;c=a.b;d=.;e=/;f=:;g=?;h=x/y:z?.w":    {"a/b", []api.Param{{Name: "c", Value: "a.b"}, {Name: "d", Value: "."}, {Name: "e", Value: "/"}, {Name: "f", Value: ":"}, {Name: "g", Value: "?"}, {Name: "h", Value: "x/y:z?.w"}}},
		"a/b;c=\"\";d=\" \t\"":                    {"a/b", []api.Param{{Name: "c", Value: ""}, {Name: "d", Value: " \t"}}},
		`a/b;c="\"\\\d\ \(";e="(f)";g=";h=i"`:     {"a/b", []api.Param{{Name: "c", Value: `"\d (`}, {Name: "e", Value: "(f)"}, {Name: "g", Value: ";h=i"}}},
		"!#$%&'*+/^_`{|}~-;A!=B!":                 {"!#$%&'*+/^_`{|}~-", []api.Param{{Name: "a!", Value: "B!"}}},
		"a/b;c=\"\\\t\"":                          {"a/b", []api.Param{{Name: "c", Value: "\t"}}},
	} {
		kind, list, code := Params(s)
		if kind != want.kind || !slices.Equal(list, want.list) || code != api.OK {
			t.Errorf("%q: %q, %q, %v, want %q", s, kind, list, code, want)
		}
		try(t, s)
	}
}

func TestParamsWrong(t *testing.T) { // P10.3
	for _, s := range []string{
		"", " ", "()", "a", "a/", "/b", "/", "a//b", "a/b/c", "a / b", "a/ b", "a /b", "a(x)/b", "a.b/c", "a/b.c", "a/b c", "a/b,", "a:b", "\"a\"/b", "a/\"b\"", "a/b\"c\"", "\u00e9/b", "a/b\x00", "a/b\r\n",
		";", ";c=d", "a/b;", "a/b; ", "a/b;;c=d", "a/b;c=d;", "a/b;c=d;;e=f", "a/b; c", "a/b;c;d=e", "a/b c=d", "a/b c=d;e=f", "a/b;=d", "a/b; =", "a/b;c=", "a/b;c=;d=e", "a/b;c= ", "a/b;c==d", "a/b;c=d=e", "a/b;c=d e", "a/b;c=d(x)e", "a/b;c d=e", "a/b;c(x)d=e", "a/b;c.d=e", "a/b;c/d=e", "a/b;c:=e", "a/b;c?=e", "a/b;\"c\"=d", "a/b;c\"\"=d",
		"a/b;c=\"d\"e", "a/b;c=\"d\"\"e\"", "a/b;c=\"d\" e", "a/b;c=d\"e\"", "a/b;c=d \"e\"", "a/b;c=d,e", "a/b;c=,\";e=,\"", "a/b;c=,\"d\"", "a/b;c=<d>", "a/b;c=d@e", "a/b;c=[d]", "a/b;c=\\d", "a/b;c=d\\", "a/b;c=\u00e9", "a/b;c=d\x7f", "a/b;c=\x00",
		"a/b;c=\"\u00e9\"", "a/b;c=\"\x00\"", "a/b;c=\"\x1f\"", "a/b;c=\"\x7f\"", "a/b;c=\"d\r\n e\"", "a/b;c=\"\\\x00\"", "a/b;c=\"\\\x7f\"", "a/b;c=\"\\\n\"", "a/b;c=d;e=\"\xff\"",
	} {
		if kind, list, code := Params(s); kind != "" || list != nil || code != api.ErrForm {
			t.Errorf("%q: %q, %q, %v", s, kind, list, code)
		}
		try(t, s)
	}
}

func TestWriteKnown(t *testing.T) { // P10.4
	for want, p := range map[string]api.Param{
		`a/b; c=d`: {Name: "c", Value: "d"}, `a/b; c=""`: {Name: "c"}, `a/b; c="d e"`: {Name: "c", Value: "d e"}, `a/b; c="\""`: {Name: "c", Value: `"`}, `a/b; c="\\"`: {Name: "c", Value: `\`}, `a/b; c="\"\\d\\\""`: {Name: "c", Value: `"\d\"`},
		`a/b; c=D.e/f:g?h`: {Name: "c", Value: "D.e/f:g?h"}, `a/b; c=.`: {Name: "c", Value: "."}, `a/b; c="="`: {Name: "c", Value: "="}, `a/b; c="d;e"`: {Name: "c", Value: "d;e"}, `a/b; c="(d)"`: {Name: "c", Value: "(d)"}, `a/b; c=" d "`: {Name: "c", Value: " d "}, "a/b; c=\"\t\"": {Name: "c", Value: "\t"},
		`a/b; x-~9=!#$%&'*+-^_{|}~`: {Name: "x-~9", Value: "!#$%&'*+-^_{|}~"},
	} {
		if s, code := Write("a/b", []api.Param{p}); s != want || code != api.OK {
			t.Errorf("%q: %q, %v, want %q", p, s, code, want)
		}
	}
	for _, list := range [][]api.Param{nil, {}} {
		if s, code := Write("multipart/x-9", list); s != "multipart/x-9" || code != api.OK {
			t.Errorf("%q, %v", s, code)
		}
	}
	if s, code := Write("a/b", []api.Param{{Name: "c", Value: "d"}, {Name: "c"}, {Name: "a", Value: "d"}}); s != `a/b; c=d; c=""; a=d` || code != api.OK {
		t.Errorf("%q, %v", s, code)
	}
}

func TestWriteBytes(t *testing.T) { // P10.4: each byte in a value, a name, a kind
	for i := range 256 {
		c := string([]byte{byte(i)})
		value, name, kind := "d"+c, "n"+c, "k/"+c
		want, code := "a/b; c="+value, api.OK
		switch {
		case i < 32 && i != 9 || i > 126:
			want, code = "", api.ErrForm
		case c == `"` || c == `\`:
			want = `a/b; c="d\` + c + `"`
		case !wordAlone.MatchString(value):
			want = `a/b; c="` + value + `"`
		}
		if s, got := Write("a/b", []api.Param{{Name: "c", Value: value}}); s != want || got != code {
			t.Errorf("%q: %q, %v, want %q", value, s, got, want)
		}
		want, code = "a/b; "+name+"=d", api.OK
		if !Atom(c) || i >= 'A' && i <= 'Z' {
			want, code = "", api.ErrForm
		}
		if s, got := Write("a/b", []api.Param{{Name: name, Value: "d"}}); s != want || got != code {
			t.Errorf("%q: %q, %v, want %q", name, s, got, want)
		}
		if s, got := Write(kind, nil); got != code || code == api.OK && s != kind || code != api.OK && s != "" {
			t.Errorf("%q: %q, %v, want %v", kind, s, got, code)
		}
		if s, got := Write(c+"/k", nil); got != code || code == api.OK && s != c+"/k" || code != api.OK && s != "" {
			t.Errorf("%q: %q, %v, want %v", c+"/k", s, got, code)
		}
	}
}

func TestWriteWrong(t *testing.T) { // P10.4
	for _, kind := range []string{"", "a", "/", "a/", "/b", "a/b/c", "a//b", "A/b", "a/B", " a/b", "a/b ", "a/ b", "a.b/c", "a/b;", "a/b;c=d", "a/(b)", "\u00e9/b"} {
		for _, list := range [][]api.Param{nil, {{Name: "c", Value: "d"}}} {
			if s, code := Write(kind, list); s != "" || code != api.ErrForm {
				t.Errorf("%q: %q, %v", kind, s, code)
			}
		}
	}
	right := api.Param{Name: "c", Value: "d"}
	for _, p := range []api.Param{{}, {Value: "d"}, {Name: "C", Value: "d"}, {Name: "cD"}, {Name: "c d"}, {Name: " c"}, {Name: "c "}, {Name: "c.d"}, {Name: "c="}, {Name: "\"c\""}, {Name: "c", Value: "\x00"}, {Name: "c", Value: "d\n"}, {Name: "c", Value: "d\x7f"}, {Name: "c", Value: "\u00e9"}, {Name: "c", Value: strings.Repeat("d", 9000) + "\r"}} {
		for _, list := range [][]api.Param{{p}, {p, right}, {right, p}, {right, right, p}} {
			if s, code := Write("a/b", list); s != "" || code != api.ErrForm {
				t.Errorf("%q: %q, %v", list, s, code)
			}
		}
	}
}

func TestWriteBack(t *testing.T) { // P10.4
	for n, value := range slices.Concat(textsOf(4, "a", " ", "\t", "\"", "\\", "(", ")", "?"), someOf(2000, 40, "a", "B", "=", ";", "\"", "\\", "(", ")", "<", " ", "\t", ".", "/", "~", ",", "@"), []string{strings.Repeat("\\\"", 1<<16)}) {
		kind, list := "a/b", []api.Param{{Name: "c", Value: value}}
		if n%2 > 0 {
			kind, list = "x~/-", append(list, api.Param{Name: "c", Value: "d"}, api.Param{Name: "e-", Value: value})
		}
		s, code := Write(kind, list)
		got, gotList, again := Params(s)
		if code != api.OK || again != api.OK || got != kind || !slices.Equal(gotList, list) {
			t.Errorf("%q, %q: %s, %v; back %q, %q, %v", kind, list, short(s), code, got, gotList, again)
		}
	}
}

func TestMany(t *testing.T) { // P1: much of everything is gone through once
	const many = 1 << 20
	for _, piece := range []string{"(", ")", "\"", "\\", "()", "(\\)", "\"\"", "\"\\\"", "<", ">", "<a>", " ", "a", ".", "a.", "@", "/", ";", "=", "a@b<", "\x00"} {
		s := strings.Repeat(piece, many/len(piece))
		for _, whole := range []string{s, "(" + s + ")", "\"" + s + "\"", "a/b;c=" + s, "a/b" + s, "<" + s + ">", "a@" + s} {
			Bare(whole)
			Address(whole)
			Ids(whole)
			Params(whole)
		}
		if text, code := Write("a/b", []api.Param{{Name: "c", Value: s}}); code == api.OK {
			if kind, list, again := Params(text); kind != "a/b" || len(list) != 1 || list[0].Value != s || again != api.OK {
				t.Errorf("%q again and again: %v", piece, again)
			}
		}
	}
	if _, list, code := Params("a/b" + strings.Repeat("; c=d", 1<<17)); len(list) != 1<<17 || code != api.OK {
		t.Errorf("%d, %v", len(list), code)
	}
}

func TestMemory(t *testing.T) { // P2, and rule 4: arguments stay as they are, and answers are new memory
	list := []api.Param{{Name: "c", Value: "d"}, {Name: "e", Value: "f g"}, {Name: "spare"}}
	kept := slices.Clone(list)
	one, _ := Write("a/b", list[:2])
	two, _ := Write("a/b", list[:2])
	if !slices.Equal(list, kept) || one != two {
		t.Errorf("%q, %q, %q", list, one, two)
	}
	_, first, _ := Params(one)
	_, second, _ := Params(one)
	clear(first[:cap(first)])
	if !slices.Equal(second, kept[:2]) {
		t.Errorf("%q", second)
	}
	ids, _ := Ids("<a> <b>")
	again, _ := Ids("<a> <b>")
	clear(ids[:cap(ids)])
	if !slices.Equal(again, []string{"a", "b"}) {
		t.Errorf("%q", again)
	}
}
