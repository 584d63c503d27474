package field

import (
	"bytes"
	"fmt"
	"reflect"
	"slices"
	"strings"
	"testing"

	"despatch/api"
)

// dice gives numbers that seem to be of no order, each from 0 to one less than asked.
func dice(first int) func(n int) int {
	x := uint32(first)*2654435761 + 12345
	return func(n int) int {
		x = x*1664525 + 1013904223
		return int(x>>8) % n
	}
}

// textsOf gives all texts of some pieces, up to a number of them.
func textsOf(most int, pieces ...string) []string {
	all, last := []string{""}, []string{""}
	for range most {
		var longer []string
		for _, s := range last {
			for _, piece := range pieces {
				longer = append(longer, s+piece)
			}
		}
		all, last = append(all, longer...), longer
	}
	return all
}

// isBlank tells whether one of the two blanks stands at a place.
func isBlank(s string, i int) bool { return s[i] == 32 || s[i] == 9 }

// slowFold is Fold of a right field, as the chapter tells it: each place in turn, with the next one looked for anew.
func slowFold(f api.Field) string {
	v, made := f.Value, f.Name+": "
	for i := range len(v) {
		if isBlank(v, i) && i > 0 && !isBlank(v, i-1) {
			next := i + 1
			for next < len(v) && !(isBlank(v, next) && !isBlank(v, next-1)) {
				next++
			}
			line := made[strings.LastIndex(made, "\n")+1:]
			if len(line)+next-i > 76 && line != f.Name+": " {
				made += "\r\n"
			}
		}
		made += v[i : i+1]
	}
	return made + "\r\n"
}

// slowRead is Read, by all lines that there are: the head's size first, then the fields, each a group of lines.
func slowRead(b string) (fields []api.Field, rest string, code api.Errno) {
	all := strings.SplitAfter(b, "\n")
	end := slices.IndexFunc(all, func(line string) bool { return line == "\n" || line == "\r\n" })
	size := len(b) + 1
	if end >= 0 {
		size = len(strings.Join(all[:end+1], ""))
	}
	if size > 65536 && len(b) > 65536 {
		return nil, "", api.ErrTooLarge
	}
	for at := 0; at != end; {
		next := at + 1
		for next < len(all) && all[next] != "" && isBlank(all[next], 0) {
			next++
		}
		f, code := slowField(all[at:next], len(fields) >= 200)
		if code != api.OK {
			return nil, "", code
		}
		fields, at = append(fields, f), next
	}
	return fields, b[size:], api.OK
}

// slowField gives the field of some lines.
func slowField(group []string, tooMany bool) (f api.Field, code api.Errno) {
	ended := func(line string) bool { return strings.HasSuffix(line, "\n") }
	name, _, found := strings.Cut(group[0], ":")
	value := ""
	for _, line := range group {
		line = strings.TrimSuffix(line, "\n")
		value += strings.TrimSuffix(line, "\r")
	}
	_, value, _ = strings.Cut(value, ":")
	value = strings.Trim(value, " \t")
	switch {
	case !ended(group[0]):
		return f, api.ErrForm
	case !found || !slowName(name):
		return f, api.ErrForm
	case tooMany:
		return f, api.ErrTooLarge
	case slices.ContainsFunc(group, func(line string) bool { return !ended(line) }):
		return f, api.ErrForm
	case len(value) > 8192:
		return f, api.ErrTooLarge
	case strings.ContainsFunc(value, func(r rune) bool { return r != 9 && (r < 32 || r > 126) }):
		return f, api.ErrForm
	}
	return api.Field{Name: name, Value: value}, api.OK
}

// slowName is Name.
func slowName(s string) bool {
	return s != "" && len(s) <= 64 && !strings.ContainsFunc(s, func(r rune) bool { return r < 33 || r > 126 || r == 58 })
}

// short gives a text's beginning, and how long it is.
func short[T ~string | ~[]byte](s T) string { return fmt.Sprintf("%.60q (%d)", s, len(s)) }

// tryRead holds Read against the slow one.
func tryRead(t *testing.T, b string) {
	t.Helper()
	fields, rest, code := Read([]byte(b))
	wantFields, wantRest, want := slowRead(b)
	if code != want || string(rest) != wantRest || !slices.Equal(fields, wantFields) {
		t.Errorf("%s: %q, %s, %v, want %q, %s, %v", short(b), fields, short(rest), code, wantFields, short(wantRest), want)
	}
	if code != api.OK && (fields != nil || rest != nil) {
		t.Errorf("%s: %v, and with it %q, %q", short(b), code, fields, rest)
	}
}

func TestName(t *testing.T) { // P9.1
	for i := range 256 {
		c := string([]byte{byte(i)})
		want := i >= 33 && i <= 126 && i != 58
		for _, s := range []string{c, "a" + c, c + "a", "a" + c + "b", strings.Repeat("a", 63) + c} {
			if got := Name(s); got != want {
				t.Errorf("%q: %v", s, got)
			}
		}
	}
	for n, want := range map[int]bool{0: false, 1: true, 63: true, 64: true, 65: false, 66: false, 1 << 16: false} {
		if got := Name(strings.Repeat("~", n)); got != want {
			t.Errorf("%d bytes: %v", n, got)
		}
	}
}

func TestValue(t *testing.T) { // P9.1
	for i := range 256 {
		c := string([]byte{byte(i)})
		inside := i >= 32 && i <= 126 || i == 9
		atEnd := i >= 33 && i <= 126
		for s, want := range map[string]bool{c: atEnd, c + "b": atEnd, "a" + c: atEnd, "a" + c + "b": inside, "a " + c + " b": inside, c + c: atEnd} {
			if got := Value(s); got != want {
				t.Errorf("%q: %v", s, got)
			}
		}
	}
	for n, want := range map[int]bool{0: true, 1: true, 8191: true, 8192: true, 8193: false, 1 << 16: false} {
		if got := Value(strings.Repeat(":", n)); got != want {
			t.Errorf("%d bytes: %v", n, got)
		}
	}
	if Value(strings.Repeat("a", 8192) + " ") {
		t.Error("a blank at the end of a value that is too long with it")
	}
}

func TestSame(t *testing.T) { // P9.1: letters of A to Z alone have two cases
	for i := range 256 {
		for j := range 256 {
			a, b := string([]byte{byte(i)}), string([]byte{byte(j)})
			letter := i >= 'A' && i <= 'Z' && j == i+32 || j >= 'A' && j <= 'Z' && i == j+32
			want := i == j || letter
			if Same(a, b) != want || Same("x"+a+"Y", "X"+b+"y") != want {
				t.Errorf("%q, %q: not %v", a, b, want)
			}
		}
	}
	for _, c := range []struct {
		a, b string
		want bool
	}{
		{"", "", true}, {"", "a", false}, {"a", "", false}, {"a", "ab", false}, {"ab", "a", false}, {"ab", "ba", false},
		{"Message-ID", "message-Id", true}, {"X-Thread", "X-Threa", false}, {"k", "\u212a", false}, {"s", "\u017f", false}, {"\u00e9", "\u00c9", false}, {"\xff", "\xfe", false},
	} {
		if got := Same(c.a, c.b); got != c.want {
			t.Errorf("%q, %q: %v", c.a, c.b, got)
		}
	}
}

func TestFoldKnown(t *testing.T) { // P9.1
	w := func(n int) string { return strings.Repeat("w", n) }
	long := strings.Repeat("n", 64)
	for f, want := range map[api.Field]string{
		{Name: "A", Value: "b"}:                                   "A: b\r\n",
		{Name: "A"}:                                               "A: \r\n",
		{Name: "A", Value: "b c"}:                                 "A: b c\r\n",
		{Name: "A", Value: w(73)}:                                 "A: " + w(73) + "\r\n",
		{Name: "A", Value: w(200)}:                                "A: " + w(200) + "\r\n",
		{Name: "A", Value: w(71) + " x"}:                          "A: " + w(71) + " x\r\n",
		{Name: "A", Value: w(72) + " x"}:                          "A: " + w(72) + "\r\n x\r\n",
		{Name: "A", Value: w(72) + "\tx"}:                         "A: " + w(72) + "\r\n\tx\r\n",
		{Name: "A", Value: w(70) + "  x"}:                         "A: " + w(70) + "  x\r\n",
		{Name: "A", Value: w(71) + " \tx"}:                        "A: " + w(71) + "\r\n \tx\r\n",
		{Name: "A", Value: w(70) + " x y"}:                        "A: " + w(70) + " x\r\n y\r\n",
		{Name: "A", Value: "x " + w(72)}:                          "A: x\r\n " + w(72) + "\r\n",
		{Name: "A", Value: "x " + w(71)}:                          "A: x " + w(71) + "\r\n",
		{Name: "A", Value: w(80) + " x"}:                          "A: " + w(80) + "\r\n x\r\n",
		{Name: "A", Value: w(80) + " " + w(73) + " y"}:            "A: " + w(80) + "\r\n " + w(73) + " y\r\n",
		{Name: "A", Value: w(80) + " " + w(74) + " y"}:            "A: " + w(80) + "\r\n " + w(74) + "\r\n y\r\n",
		{Name: "A", Value: w(80) + " " + w(75) + " " + w(75)}:     "A: " + w(80) + "\r\n " + w(75) + "\r\n " + w(75) + "\r\n",
		{Name: "A", Value: w(80) + " x " + w(75)}:                 "A: " + w(80) + "\r\n x\r\n " + w(75) + "\r\n",
		{Name: "A", Value: "x" + strings.Repeat(" ", 90) + "y"}:   "A: x\r\n" + strings.Repeat(" ", 90) + "y\r\n",
		{Name: "A", Value: "x \t\t y" + strings.Repeat(" z", 35)}: "A: x \t\t y" + strings.Repeat(" z", 33) + "\r\n z z\r\n",
		{Name: long, Value: w(10)}:                                long + ": " + w(10) + "\r\n",
		{Name: long, Value: w(8) + " x"}:                          long + ": " + w(8) + " x\r\n",
		{Name: long, Value: w(9) + " x"}:                          long + ": " + w(9) + "\r\n x\r\n",
		{Name: long, Value: w(11) + " x"}:                         long + ": " + w(11) + "\r\n x\r\n",
		{Name: long, Value: w(50) + " " + w(50) + " " + w(30)}:    long + ": " + w(50) + "\r\n " + w(50) + "\r\n " + w(30) + "\r\n",
	} {
		if b, code := Fold(f); code != api.OK || string(b) != want {
			t.Errorf("%q: %q, %v, want %q", f, b, code, want)
		}
	}
}

func TestFoldWrong(t *testing.T) { // P9.1
	names := []string{"", "a b", "a:", ":", "a\t", " a", "\u00e9", "a\x7f", "a\r\n", strings.Repeat("a", 65)}
	values := []string{" ", "\t", " b", "b ", "\tb", "b\t", "b\n", "b\r\n c", "\x00", "\x1f", "b\x7f", "\u00e9", strings.Repeat("b", 8193)}
	for _, f := range pairs(names, append(values, "b")) {
		tryFoldWrong(t, f)
	}
	for _, f := range pairs([]string{"A"}, values) {
		tryFoldWrong(t, f)
	}
}

// pairs gives fields of each name with each value.
func pairs(names, values []string) (list []api.Field) {
	for _, name := range names {
		for _, value := range values {
			list = append(list, api.Field{Name: name, Value: value})
		}
	}
	return list
}

// tryFoldWrong tries a field that may not be.
func tryFoldWrong(t *testing.T, f api.Field) {
	t.Helper()
	if b, code := Fold(f); code != api.ErrForm || b != nil {
		t.Errorf("%q: %q, %v", f, b, code)
	}
}

// someField gives a right field of no order: words and blanks of several lengths.
func someField(n int) api.Field {
	roll := dice(n)
	most := []int{3, 12, 40, 90}[roll(4)]
	name := strings.Repeat("N", 1+roll(64))
	value := ""
	for range roll(30) {
		if value != "" {
			for range 1 + roll(3)*roll(2) {
				value += []string{" ", "\t"}[roll(2)]
			}
		}
		value += strings.Repeat("v", 1+roll(most))
	}
	return api.Field{Name: name, Value: value}
}

func TestFold(t *testing.T) { // P9.1
	try := func(f api.Field) {
		t.Helper()
		if b, code := Fold(f); code != api.OK || string(b) != slowFold(f) {
			t.Errorf("%q: %q, %v, want %q", f, b, code, slowFold(f))
		}
	}
	for n := range 3000 {
		try(someField(n))
	}
	for _, value := range textsOf(4, " ", "\t", "x", strings.Repeat("y", 35), strings.Repeat("z", 74)) {
		try(api.Field{Name: "Name", Value: strings.Trim(value, " \t")})
	}
	for n := range 80 {
		try(api.Field{Name: "N", Value: strings.Repeat("a", n+1) + " b  c"})
	}
}

func TestReadKnown(t *testing.T) { // P9.2, and the chapter's example
	for b, want := range map[string]struct {
		fields []api.Field
		rest   string
	}{
		"A: b\n c\n\nx":                    {[]api.Field{{Name: "A", Value: "b c"}}, "x"},
		"A: b\r\n c\r\n\r\nx":              {[]api.Field{{Name: "A", Value: "b c"}}, "x"},
		"\n":                               {nil, ""},
		"\r\n":                             {nil, ""},
		"\n\n":                             {nil, "\n"},
		"\r\n\r\n":                         {nil, "\r\n"},
		"\n\x00\r":                         {nil, "\x00\r"},
		"A:\n\n":                           {[]api.Field{{Name: "A"}}, ""},
		"A:b\n\n":                          {[]api.Field{{Name: "A", Value: "b"}}, ""},
		"A: \t b \t \r\n\r\n":              {[]api.Field{{Name: "A", Value: "b"}}, ""},
		"A::b:\n\n":                        {[]api.Field{{Name: "A", Value: ":b:"}}, ""},
		"A:\n \n\t\n\n":                    {[]api.Field{{Name: "A"}}, ""},
		"A:\r\n b\r\n\r\n":                 {[]api.Field{{Name: "A", Value: "b"}}, ""},
		"A: b\n \n\nc":                     {[]api.Field{{Name: "A", Value: "b"}}, "c"},
		"A: b\r\n \r\n c\r\n\r\n\n":        {[]api.Field{{Name: "A", Value: "b  c"}}, "\n"},
		"A: b\n\tc\r\n d\nB: e\n\r\nf":     {[]api.Field{{Name: "A", Value: "b\tc d"}, {Name: "B", Value: "e"}}, "f"},
		"A: b:\n :c\nA: d\n\n":             {[]api.Field{{Name: "A", Value: "b: :c"}, {Name: "A", Value: "d"}}, ""},
		"A: b\na: c\nA: b\n\n":             {[]api.Field{{Name: "A", Value: "b"}, {Name: "a", Value: "c"}, {Name: "A", Value: "b"}}, ""},
		"!~: ~!\n\nA: b\n\n":               {[]api.Field{{Name: "!~", Value: "~!"}}, "A: b\n\n"},
		strings.Repeat("n", 64) + ":\n\nx": {[]api.Field{{Name: strings.Repeat("n", 64)}}, "x"},
	} {
		fields, rest, code := Read([]byte(b))
		if code != api.OK || !slices.Equal(fields, want.fields) || string(rest) != want.rest {
			t.Errorf("%q: %q, %q, %v, want %q", b, fields, rest, code, want)
		}
	}
}

func TestReadWrong(t *testing.T) { // P9.2
	for _, b := range []string{
		"", "A", "A:", "A: b", "A: b\r", "A: b\n", "A: b\r\n", "A: b\n c", "A: b\n c\n", "A: b\n ", "A: b\n\r", "\r", " ", "A: b\n\rC: d\n\n",
		" \n\n", " A: b\n\n", "\tA: b\n\n", "A\n\n", "A b\n\n", "A : b\n\n", "A\t: b\n\n", ": b\n\n", ":\n\n", "A\n : b\n\n", "A\r: b\n\n", "\u00e9: b\n\n",
		"\x00A: b\n\n", "A\x7f: b\n\n", "A: b\nC\n\n", strings.Repeat("n", 65) + ": b\n\n",
		"A: \x00\n\n", "A: b\rc\n\n", "A: \r\r\n\n", "A: b\r\r\n c\n\n", "A: \x7f\n\n", "A: \u00e9\n\n", "A: b\n c\x1f\n\n", "A: \x0b\n\n", "\r\r\n", "A: b\n\r\r\n\n",
	} {
		if fields, rest, code := Read([]byte(b)); code != api.ErrForm || fields != nil || rest != nil {
			t.Errorf("%q: %q, %q, %v", b, fields, rest, code)
		}
		tryRead(t, b)
	}
}

func TestReadBytes(t *testing.T) { // P9.2: each byte, in a name and in a value
	for i := range 256 {
		c := string([]byte{byte(i)})
		for _, b := range []string{"A" + c + "B: d\n\n", c + "B: d\n\n", "A" + c + ": d\n\n", "A: b" + c + "d\n\n", "A:" + c + "d\n\n", "A: b" + c + "\n\n", "A: b\n" + c + "d: e\n\n", "A: b\n\n" + c} {
			tryRead(t, b)
		}
	}
}

func TestReadShort(t *testing.T) { // P9.2: all short texts, right ones and wrong ones
	for _, b := range textsOf(7, "A", ":", " ", "\r", "\n") {
		tryRead(t, b)
	}
	for _, b := range textsOf(6, "A:", "\t", "b", "\r\n", "\n", "\x00") {
		tryRead(t, b)
	}
}

func TestReadMany(t *testing.T) { // P9.2: how many fields, and what is told of the 201st
	for n, want := range map[int]api.Errno{199: api.OK, 200: api.OK, 201: api.ErrTooLarge, 202: api.ErrTooLarge} {
		fields, rest, code := Read([]byte(strings.Repeat("A: b\n", n) + "\nx"))
		if code != want || code == api.OK && (len(fields) != n || string(rest) != "x") {
			t.Errorf("%d fields: %d, %q, %v", n, len(fields), rest, code)
		}
	}
	full := strings.Repeat("A: b\r\n c\r\n", 200)
	for behind, want := range map[string]api.Errno{
		"A: b\n":          api.ErrTooLarge,
		"A: b\n c":        api.ErrTooLarge, // ahead of a line that goes it on and has no end
		"A: \x00\n\n":     api.ErrTooLarge,
		"A: b":            api.ErrForm, // its first line has no end
		"A":               api.ErrForm,
		"":                api.ErrForm,
		"A b\n\n":         api.ErrForm, // its name comes ahead of that
		": b\n\n":         api.ErrForm,
		"\x00: b\n\n":     api.ErrForm,
		" c\r\n\r\n":      api.OK, // goes the last one on
		"\r\n":            api.OK,
		"\r\nA: b\r\n":    api.OK,
		" \x00\n\n":       api.ErrForm,
		" \x00\nA: b\n\n": api.ErrForm,
	} {
		if _, _, code := Read([]byte(full + behind)); code != want {
			t.Errorf("200 fields, and %q: %v, want %v", behind, code, want)
		}
		tryRead(t, full+behind)
	}
}

func TestReadLong(t *testing.T) { // P9.2: how long a value is, and what is told of one that is too long
	v := func(n int) string { return strings.Repeat("v", n) }
	for b, want := range map[string]api.Errno{
		"A: " + v(8192) + "\n\n":                         api.OK,
		"A: " + v(8193) + "\n\n":                         api.ErrTooLarge,
		"A: \t" + v(8192) + " \t\r\n \r\n\r\n":           api.OK, // blanks at its ends aren't of it
		"A:\n " + v(8191) + "\r\n\n":                     api.OK,
		"A: " + v(4000) + "\r\n " + v(4191) + "\r\n\r\n": api.OK,
		"A: " + v(4000) + "\r\n " + v(4192) + "\r\n\r\n": api.ErrTooLarge,
		"A: " + v(4000) + "\n " + v(4191) + "\n\n":       api.OK,
		"A: " + v(4000) + "\n " + v(4192) + "\n\n":       api.ErrTooLarge,
		"A: " + v(8193) + "\n":                           api.ErrTooLarge, // ahead of a head without an end
		"A: " + v(8193) + "\n c":                         api.ErrForm,     // a line that goes it on has no end
		"A: " + v(8193):                                  api.ErrForm,
		"A " + v(8193) + "\n\n":                          api.ErrForm,     // its name comes ahead of that
		"A: \x00" + v(8192) + "\n\n":                     api.ErrTooLarge, // its length comes ahead of its bytes
		"A: \x00" + v(8191) + "\n\n":                     api.ErrForm,
		"A: \x00\nB: " + v(8193) + "\n\n":                api.ErrForm, // what is met first
		"B: " + v(8193) + "\nA: \x00\n\n":                api.ErrTooLarge,
		"A: \r" + v(8191) + "\r\r\n\n":                   api.ErrTooLarge, // a CR that is of no line's end counts
		"A: \r" + v(8190) + "\r\r\n\n":                   api.ErrForm,
	} {
		if _, _, code := Read([]byte(b)); code != want {
			t.Errorf("%s: %v, want %v", short(b), code, want)
		}
		tryRead(t, b)
	}
}

// headOf gives a head of a number of bytes without its end, each line of which ends with CR and LF.
func headOf(size int) string {
	const line = 1000
	var made strings.Builder
	for size-made.Len() >= 2*line {
		made.WriteString("A: " + strings.Repeat("v", line-5) + "\r\n")
	}
	made.WriteString("A: " + strings.Repeat("v", size-made.Len()-5) + "\r\n")
	return made.String()
}

func TestReadHead(t *testing.T) { // P9.2: how many bytes a head has, its end with it
	for size := 65530; size <= 65540; size++ {
		for _, end := range []string{"\n", "\r\n"} {
			for _, behind := range []string{"", "x", "\n\n", strings.Repeat("body\n\n", 20000)} {
				head := headOf(size-len(end)) + end
				want := api.OK
				if size > 65536 {
					want = api.ErrTooLarge
				}
				_, rest, code := Read([]byte(head + behind))
				if code != want || code == api.OK && string(rest) != behind {
					t.Errorf("a head of %d bytes, %s behind: %v, %s", size, short(behind), code, short(rest))
				}
				tryRead(t, head+behind)
			}
		}
		// Without the head's end: more than it may have, or no end.
		for _, b := range []string{headOf(size), strings.Repeat("x", size), "x: " + strings.Repeat("v", size-4) + "\n", "\x00\n" + headOf(size-2)} {
			want := api.ErrTooLarge
			if size <= 65536 {
				want = api.ErrForm
			}
			if b[0] == 'x' && b[1] == ':' && size <= 65536 {
				want = api.ErrTooLarge // its value
			}
			if _, _, code := Read([]byte(b)); code != want {
				t.Errorf("%s: %v, want %v", short(b), code, want)
			}
			tryRead(t, b)
		}
	}
}

func TestReadHeadFirst(t *testing.T) { // P9.2: too large a head comes ahead of all others, and just one of the head
	large, small := strings.Repeat("A: b\r\n", 11000), strings.Repeat("A: b\r\n", 100)
	body := strings.Repeat("x", 70000)
	for b, want := range map[string]api.Errno{
		" A: b\n" + large + "\n":      api.ErrTooLarge,
		"A\n" + large + "\n":          api.ErrTooLarge,
		"A: \x00\n" + large:           api.ErrTooLarge,
		"A" + body:                    api.ErrTooLarge,
		"\x00" + body + "\n\n":        api.ErrTooLarge,
		"\n" + large:                  api.OK,
		"\r\n" + body:                 api.OK,
		small + "\n" + body:           api.OK,
		small + "\r\n" + large:        api.OK,
		"A\n" + small + "\n" + body:   api.ErrForm,
		small + "A: \x00\n\n" + body:  api.ErrForm,
		small + " \n" + body + "\n\n": api.ErrTooLarge,
	} {
		if _, _, code := Read([]byte(b)); code != want {
			t.Errorf("%s: %v, want %v", short(b), code, want)
		}
		tryRead(t, b)
	}
}

func TestReadTurned(t *testing.T) { // P9.2: right heads, of which some bytes were turned
	for n := range 4000 {
		roll := dice(n)
		var b []byte
		for i := range 1 + roll(4) {
			line, _ := Fold(someField(n*5 + i))
			b = append(b, line...)
		}
		b = append(b, "\r\nbehind\r\n"...)
		for range roll(4) {
			b[roll(len(b))] = "A: \t\r\n\n\x00"[roll(8)]
		}
		tryRead(t, string(b[:len(b)-roll(2)*roll(len(b))]))
	}
}

func TestBack(t *testing.T) { // P9.3
	behind := []string{"", "x", "\r\n", "A: b\r\n\r\n", " c\r\n", "\x00\n"}
	for n := range 500 {
		var fields []api.Field
		var b []byte
		for i := range n % 8 {
			f := someField(n*8 + i)
			line, code := Fold(f)
			if code != api.OK {
				t.Fatalf("%q: %v", f, code)
			}
			fields, b = append(fields, f), append(b, line...)
		}
		rest := behind[n%len(behind)]
		got, left, code := Read(append(append(b, "\r\n"...), rest...))
		if code != api.OK || !slices.Equal(got, fields) || string(left) != rest {
			t.Errorf("%q, and %q: %q, %q, %v", fields, rest, got, left, code)
		}
	}
	for _, f := range []api.Field{{Name: "A"}, {Name: strings.Repeat("n", 64), Value: strings.Repeat("v", 8192)}, {Name: "A", Value: "b" + strings.Repeat(" ", 8190) + "c"}, {Name: "A", Value: strings.Repeat("b\t", 4095) + "c"}} {
		b, code := Fold(f)
		got, rest, again := Read(append(b, "\r\nx"...))
		if code != api.OK || again != api.OK || !slices.Equal(got, []api.Field{f}) || string(rest) != "x" {
			t.Errorf("%.20q: %v, %.20q, %q, %v", f, code, got, rest, again)
		}
	}
}

func TestNothing(t *testing.T) { // P1
	for _, b := range [][]byte{nil, {}} {
		if fields, rest, code := Read(b); code != api.ErrForm || fields != nil || rest != nil {
			t.Errorf("%q, %q, %v", fields, rest, code)
		}
	}
	for _, b := range [][]byte{bytes.Repeat([]byte{'\n'}, 1<<21), bytes.Repeat([]byte{' '}, 1<<21), bytes.Repeat([]byte{':'}, 1<<21), bytes.Repeat([]byte("a:\n"), 1<<19)} {
		tryRead(t, string(b))
	}
}

func TestMemory(t *testing.T) { // P2, and rule 4: arguments stay as they are, and answers are new memory
	const text = "A: b\r\n c\r\nB: d\n e\n f\n\nbehind"
	room := []byte("ahead" + text + "spare")
	b := room[5 : 5+len(text)]
	fields, rest, code := Read(b)
	again, left, _ := Read(b)
	if string(room) != "ahead"+text+"spare" || code != api.OK {
		t.Errorf("the argument was changed to %q, %v", room, code)
	}
	want := []api.Field{{Name: "A", Value: "b c"}, {Name: "B", Value: "d e f"}}
	clear(room)
	if !reflect.DeepEqual(fields, want) || string(rest) != "behind" {
		t.Errorf("with the argument change %q, %q", fields, rest)
	}
	clear(fields[:cap(fields)])
	clear(rest[:cap(rest)])
	if !reflect.DeepEqual(again, want) || string(left) != "behind" {
		t.Errorf("the same call gives %q, %q", again, left)
	}
	f := api.Field{Name: "A", Value: strings.Repeat("word ", 40) + "."}
	one, _ := Fold(f)
	two, _ := Fold(f)
	clear(one[:cap(one)])
	if string(two) != slowFold(f) {
		t.Errorf("the same call gives %q", two)
	}
}
