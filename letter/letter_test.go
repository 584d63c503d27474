package letter

import (
	"bytes"
	"fmt"
	"reflect"
	"slices"
	"strings"
	"testing"

	"despatch/api"
	"despatch/field"
)

// dice gives numbers that seem to be of no order, each from 0 to one less than asked.
func dice(first int) func(n int) int {
	x := uint32(first)*2654435761 + 12345
	return func(n int) int {
		x = x*1664525 + 1013904223
		return int(x>>8) % n
	}
}

// textsOf gives all texts of some pieces, up to a number of them.
func textsOf(most int, pieces ...string) []string {
	all, last := []string{""}, []string{""}
	for range most {
		var longer []string
		for _, s := range last {
			for _, piece := range pieces {
				longer = append(longer, s+piece)
			}
		}
		all, last = append(all, longer...), longer
	}
	return all
}

// fieldsOf gives fields of names and values, in turn.
func fieldsOf(texts ...string) []api.Field {
	var fields []api.Field
	for i := 0; i < len(texts); i += 2 {
		fields = append(fields, api.Field{Name: texts[i], Value: texts[i+1]})
	}
	return fields
}

// mail gives a mail of a body, and of names and values.
func mail(body string, texts ...string) api.Letter {
	return api.Letter{Fields: fieldsOf(texts...), Body: []byte(body)}
}

// alike tells whether two mails are one: a list without elements and none are.
func alike(a, b api.Letter) bool {
	return slices.Equal(a.Fields, b.Fields) && bytes.Equal(a.Body, b.Body)
}

// empty tells whether a mail is the zero value.
func empty(l api.Letter) bool { return l.Fields == nil && l.Body == nil }

// short gives a text's beginning, and how long it is.
func short[T ~string | ~[]byte](s T) string { return fmt.Sprintf("%.60q (%d)", s, len(s)) }

// names are such that are the same, and not the same, by turns; the last ones may be no field's.
func names() []string {
	return []string{"A", "a", "Ab", "aB", "AB", "B", "b", "X-c", "x-C", "[", "{", "", "A ", "A:", "\xc3\xa9", "\xc3\x89", "\u212a", "k"}
}

// someValue gives a value of no order, often one that is folded.
func someValue(roll func(n int) int) string {
	var s string
	for range roll(30) {
		s += []string{"word", "w", " ", "\t", "  ", "-", ": ", "~!"}[roll(8)]
	}
	return strings.Trim(s, " \t")
}

// someBody gives a body of no order: any bytes, or lines.
func someBody(roll func(n int) int) string {
	var s string
	for range roll(20) {
		s += []string{"\r\n", "\n", "\r", " ", "A: b\r\n", "\r\n\r\n", ".", "\x00", "\xff", string([]byte{byte(roll(256))})}[roll(10)]
	}
	return s
}

// someMail gives a mail of no order, whose fields may all be; few names, so that some are there again and again.
func someMail(roll func(n int) int) api.Letter {
	l := api.Letter{Body: []byte(someBody(roll))}
	for range roll(8) {
		l.Fields = append(l.Fields, api.Field{Name: names()[roll(11)], Value: someValue(roll)})
	}
	return l
}

// slowWrite is Write of a mail that may be: each field, a line's end, the body.
func slowWrite(l api.Letter) string {
	var s string
	for _, f := range l.Fields {
		b, _ := field.Fold(f)
		s += string(b)
	}
	return s + "\r\n" + string(l.Body)
}

// headOf gives as few fields as may be whose head has so many bytes; none of them is folded.
func headOf(size int) []api.Field {
	var fields []api.Field
	for left := size - 2; left > 0; {
		n := min(left, 8197) // A, :, a blank, the value, a line's end
		if left > n && left < n+10 {
			n -= 10
		}
		fields = append(fields, api.Field{Name: "A", Value: strings.Repeat("x", n-5)})
		left -= n
	}
	return fields
}

func TestReadKnown(t *testing.T) { // P11.1
	for b, want := range map[string]api.Letter{
		"\n":                             {},
		"\r\n":                           {},
		"\r\n\r\n":                       mail("\r\n"),
		"\nA: b\n\n":                     mail("A: b\n\n"),
		"A: b\r\n\r\nc":                  mail("c", "A", "b"),
		"A: b\n\nc\n":                    mail("c\n", "A", "b"),
		"A:\n\n\x00\xff\r":               mail("\x00\xff\r", "A", ""),
		"A: b\nX-c: d\n e\na: f\n\nbody": mail("body", "A", "b", "X-c", "d e", "a", "f"),
		"A: b\r\n\tc\r\n \r\n\r\n d":     mail(" d", "A", "b\tc"),
		"a: 1\nA: 2\na: 1\n\n":           mail("", "a", "1", "A", "2", "a", "1"),
	} {
		got, code := Read([]byte(b))
		if code != api.OK || !alike(got, want) {
			t.Errorf("%q: %q, %v", b, got, code)
		}
	}
	for b, want := range map[string]api.Errno{
		"":                                    api.ErrForm,
		"A: b":                                api.ErrForm,
		"A: b\r\n":                            api.ErrForm,
		" A: b\n\n":                           api.ErrForm,
		"A\n\n":                               api.ErrForm,
		"A b: c\n\n":                          api.ErrForm,
		"A: \x00\n\n":                         api.ErrForm,
		"A: b\r\r\n\n":                        api.ErrForm,
		strings.Repeat("A: b\n", 201) + "\nc": api.ErrTooLarge,
		"A: " + strings.Repeat("x", 8193) + "\n\nc": api.ErrTooLarge,
		strings.Repeat("x", 65537):                  api.ErrTooLarge,
	} {
		got, code := Read([]byte(b))
		if code != want || !empty(got) {
			t.Errorf("%s: %q, %v", short(b), got, code)
		}
	}
}

func TestReadAll(t *testing.T) { // P11.1: what layer 9 tells, and nothing else
	for _, s := range textsOf(6, "A", ": ", " ", "\n", "\r\n", "\x00") {
		for _, b := range []string{s, "B: c\r\n" + s, "D: e\n\n" + s} {
			got, code := Read([]byte(b))
			fields, body, want := field.Read([]byte(b))
			if code != want || !alike(got, api.Letter{Fields: fields, Body: body}) || code != api.OK && !empty(got) {
				t.Errorf("%q: %q, %v", b, got, code)
			}
		}
	}
}

func TestReadTooLarge(t *testing.T) { // P11.1: too many bytes come ahead of what layer 9 says
	for _, c := range []struct {
		begin       string
		within, out api.Errno
	}{
		{"\n", api.OK, api.ErrTooLarge},
		{"A: b\r\n\r\n", api.OK, api.ErrTooLarge},
		{"A\n\n", api.ErrForm, api.ErrTooLarge},
		{" A: b\r\n\r\n", api.ErrForm, api.ErrTooLarge},
	} {
		b := []byte(c.begin + strings.Repeat("x", api.MaxMail+1-len(c.begin)))
		if l, code := Read(b); code != c.out || !empty(l) {
			t.Errorf("%q, and more than may be: %v", c.begin, code)
		}
		l, code := Read(b[:api.MaxMail])
		if code != c.within || code == api.OK && len(l.Body) != api.MaxMail-len(c.begin) {
			t.Errorf("%q, and as much as may be: %v, %d", c.begin, code, len(l.Body))
		}
	}
	if l, code := Read(make([]byte, 1<<23)); code != api.ErrTooLarge || !empty(l) {
		t.Errorf("%v", code)
	}
}

func TestWriteKnown(t *testing.T) { // P11.1
	w := strings.Repeat("w", 72)
	for _, c := range []struct {
		l    api.Letter
		want string
	}{
		{api.Letter{}, "\r\n"},
		{api.Letter{Fields: []api.Field{}, Body: []byte{}}, "\r\n"},
		{mail("c", "A", "b"), "A: b\r\n\r\nc"},
		{mail("c"), "\r\nc"},
		{mail("\n\r\x00\xff\r\n.\r\n"), "\r\n\n\r\x00\xff\r\n.\r\n"},
		{mail("", "A", ""), "A: \r\n\r\n"},
		{mail("body\n", "A", "b", "X-c", "d e", "a", "f"), "A: b\r\nX-c: d e\r\na: f\r\n\r\nbody\n"},
		{mail("b", "Subject", w+" x\ty"), "Subject: " + w + "\r\n x\ty\r\n\r\nb"},
		{mail("b", "A", w+"\tx", "B", w+" y"), "A: " + w + "\r\n\tx\r\nB: " + w + "\r\n y\r\n\r\nb"},
	} {
		if b, code := Write(c.l); code != api.OK || string(b) != c.want {
			t.Errorf("%q: %q, %v", c.l, b, code)
		}
	}
	for n := range 500 {
		l := someMail(dice(n))
		if b, code := Write(l); code != api.OK || string(b) != slowWrite(l) {
			t.Errorf("%q: %q, %v", l, b, code)
		}
	}
}

func TestWriteForm(t *testing.T) { // P11.1: a field that may not be, wherever it stands, ahead of what is too large
	large := slices.Concat(headOf(api.MaxHead), fieldsOf("B", "c"))
	many := slices.Repeat(fieldsOf("A", "b"), 201)
	for _, f := range []api.Field{{}, {Value: "b"}, {Name: "A b"}, {Name: "A:"}, {Name: "\u00e9"}, {Name: strings.Repeat("n", 65)}, {Name: "A", Value: " b"}, {Name: "A", Value: "b\t"}, {Name: "A", Value: "b\r\n c"}, {Name: "A", Value: "\x7f"}, {Name: "A", Value: strings.Repeat("x", 8193)}} {
		for _, fields := range [][]api.Field{nil, fieldsOf("B", "c"), fieldsOf("B", "c", "D", "e"), many, large, slices.Concat(large, large)} {
			for _, at := range []int{0, len(fields) / 2, len(fields)} {
				for _, body := range [][]byte{nil, make([]byte, api.MaxMail)} {
					l := api.Letter{Fields: slices.Insert(slices.Clone(fields), at, f), Body: body}
					if b, code := Write(l); code != api.ErrForm || b != nil {
						t.Errorf("%.60q at %d of %d: %s, %v", f, at, len(fields), short(b), code)
					}
				}
			}
		}
	}
}

func TestWriteTooLarge(t *testing.T) { // P11.1
	spaced := strings.Repeat("x ", 4000) + "x" // folded it has 3 bytes more of each 76 or so
	folded, _ := field.Fold(api.Field{Name: "A", Value: spaced})
	room := api.MaxHead - 7*len(folded)
	for i, c := range []struct {
		l    api.Letter
		want api.Errno
	}{
		{api.Letter{Fields: slices.Repeat(fieldsOf("A", "b"), 200)}, api.OK},
		{api.Letter{Fields: slices.Repeat(fieldsOf("A", "b"), 201)}, api.ErrTooLarge},
		{api.Letter{Fields: slices.Repeat(fieldsOf("A", ""), 100000)}, api.ErrTooLarge},
		{api.Letter{Fields: headOf(api.MaxHead - 1)}, api.OK},
		{api.Letter{Fields: headOf(api.MaxHead)}, api.OK},
		{api.Letter{Fields: headOf(api.MaxHead + 1)}, api.ErrTooLarge},
		{api.Letter{Fields: headOf(api.MaxHead + 2)}, api.ErrTooLarge},
		{api.Letter{Fields: headOf(400000)}, api.ErrTooLarge},
		{api.Letter{Fields: slices.Concat(headOf(api.MaxHead-60), slices.Repeat(fieldsOf("A", "b"), 10))}, api.OK},
		{api.Letter{Fields: slices.Concat(headOf(api.MaxHead-59), slices.Repeat(fieldsOf("A", "b"), 10))}, api.ErrTooLarge},
		{api.Letter{Fields: slices.Concat(slices.Repeat(fieldsOf("A", spaced), 7), headOf(room))}, api.OK},
		{api.Letter{Fields: slices.Concat(slices.Repeat(fieldsOf("A", spaced), 7), headOf(room+1))}, api.ErrTooLarge},
		{api.Letter{Body: make([]byte, api.MaxMail-2)}, api.OK},
		{api.Letter{Body: make([]byte, api.MaxMail-1)}, api.ErrTooLarge},
		{api.Letter{Body: make([]byte, api.MaxMail+1)}, api.ErrTooLarge},
		{api.Letter{Fields: fieldsOf("A", "b"), Body: make([]byte, api.MaxMail-8)}, api.OK},
		{api.Letter{Fields: fieldsOf("A", "b"), Body: make([]byte, api.MaxMail-7)}, api.ErrTooLarge},
		{api.Letter{Fields: headOf(api.MaxHead), Body: make([]byte, api.MaxMail-api.MaxHead)}, api.OK},
		{api.Letter{Fields: headOf(api.MaxHead), Body: make([]byte, api.MaxMail-api.MaxHead+1)}, api.ErrTooLarge},
		{api.Letter{Fields: slices.Repeat(fieldsOf("A", "b"), 201), Body: make([]byte, api.MaxMail)}, api.ErrTooLarge},
	} {
		b, code := Write(c.l)
		if code != c.want || code != api.OK && b != nil {
			t.Errorf("%d: %s, %v", i, short(b), code)
		}
		if code == api.OK && string(b) != slowWrite(c.l) {
			t.Errorf("%d: %s", i, short(b))
		}
	}
}

// known is a mail that has some names again and again.
func known() api.Letter {
	return mail("body", "A", "1", "X-c", "2 3", "a", "4", "B", "", "x-C", "2 3", "A", "5", "\xc3\xa9", "6", "", "7")
}

func TestGetAndAll(t *testing.T) { // P11.2
	for name, want := range map[string][]string{
		"A": {"1", "4", "5"}, "a": {"1", "4", "5"}, "X-C": {"2 3", "2 3"}, "x-c": {"2 3", "2 3"}, "b": {""}, "\xc3\xa9": {"6"}, "": {"7"},
		"\xc3\x89": nil, "C": nil, "A ": nil, "A:": nil, "AA": nil, "X-": nil, "X-cc": nil, "\x00": nil,
	} {
		if got := All(known(), name); !slices.Equal(got, want) {
			t.Errorf("all %q: %q", name, got)
		}
		first := ""
		if len(want) > 0 {
			first = want[0]
		}
		if got, ok := Get(known(), name); got != first || ok != (len(want) > 0) {
			t.Errorf("%q: %q, %v", name, got, ok)
		}
	}
	if got, ok := Get(api.Letter{}, ""); got != "" || ok {
		t.Errorf("%q, %v", got, ok)
	}
	if got := All(api.Letter{}, "A"); len(got) != 0 {
		t.Errorf("%q", got)
	}
	// A field in the body, or in a value, is none
	if got, ok := Get(mail("A: b\r\n\r\n", "B", "A: c"), "A"); got != "" || ok {
		t.Errorf("%q, %v", got, ok)
	}
}

func TestDropKnown(t *testing.T) { // P11.2
	for name, want := range map[string]api.Letter{
		"a":        mail("body", "X-c", "2 3", "B", "", "x-C", "2 3", "\xc3\xa9", "6", "", "7"),
		"A":        mail("body", "X-c", "2 3", "B", "", "x-C", "2 3", "\xc3\xa9", "6", "", "7"),
		"X-C":      mail("body", "A", "1", "a", "4", "B", "", "A", "5", "\xc3\xa9", "6", "", "7"),
		"":         mail("body", "A", "1", "X-c", "2 3", "a", "4", "B", "", "x-C", "2 3", "A", "5", "\xc3\xa9", "6"),
		"C":        known(),
		"\xc3\x89": known(),
	} {
		if got := Drop(known(), name); !alike(got, want) {
			t.Errorf("%q: %q", name, got)
		}
	}
	for _, l := range []api.Letter{{}, mail("x"), mail("x", "A", "b"), mail("x", "A", "b", "a", "c")} {
		if got := Drop(l, "a"); len(got.Fields) != 0 || !bytes.Equal(got.Body, l.Body) {
			t.Errorf("%q: %q", l, got)
		}
	}
}

func TestSetKnown(t *testing.T) { // P11.2
	for _, c := range []struct {
		l           api.Letter
		name, value string
		want        api.Letter
	}{
		{api.Letter{}, "A", "b", mail("", "A", "b")},
		{mail("x"), "A", "b", mail("x", "A", "b")},
		{mail("x", "A", "b"), "A", "b", mail("x", "A", "b")},
		{mail("x", "A", "b"), "A", "", mail("x", "A", "")},
		{mail("x", "A", "b"), "a", "c", mail("x", "a", "c")},
		{mail("x", "A", "b"), "B", "c", mail("x", "A", "b", "B", "c")},
		{mail("x", "A", "b", "B", "c", "D", "e"), "b", "f", mail("x", "A", "b", "b", "f", "D", "e")},
		{mail("x", "A", "b", "B", "c", "a", "e"), "A", "f", mail("x", "A", "f", "B", "c")},
		{mail("x", "B", "c", "a", "b", "A", "e", "B", "c", "A", "f"), "A", "g", mail("x", "B", "c", "A", "g", "B", "c")},
		{mail("x", "A", "b", "A", "b", "A", "b"), "A", "b", mail("x", "A", "b")},
		{mail("x", "A", "b"), "", "c", mail("x", "A", "b", "", "c")},
		{mail("x", "", "b"), "", "c", mail("x", "", "c")},
		{mail("x", "A", "b"), "no name: ", "no\r\nvalue ", mail("x", "A", "b", "no name: ", "no\r\nvalue ")},
	} {
		if got := Set(c.l, c.name, c.value); !alike(got, c.want) {
			t.Errorf("%q, %q, %q: %q", c.l, c.name, c.value, got)
		}
	}
}

// slowOf gives, field by field, the values of a name, the mail without them, and the one where it is set.
func slowOf(l api.Letter, name, value string) (values []string, without, set []api.Field) {
	for _, f := range l.Fields {
		if field.Same(f.Name, name) {
			values = append(values, f.Value)
			if len(values) == 1 {
				set = append(set, api.Field{Name: name, Value: value})
			}
			continue
		}
		without, set = append(without, f), append(set, f)
	}
	if len(values) == 0 {
		set = append(set, api.Field{Name: name, Value: value})
	}
	return values, without, set
}

func TestNamesOfNoOrder(t *testing.T) { // P11.2
	for n := range 3000 {
		roll := dice(n)
		l := someMail(roll)
		if n%2 == 0 { // what no head could have may be in a mail, too
			for i := range l.Fields {
				l.Fields[i].Name = names()[roll(len(names()))]
			}
		}
		name, value := names()[roll(len(names()))], someValue(roll)
		values, without, set := slowOf(l, name, value)
		if got := All(l, name); !slices.Equal(got, values) {
			t.Errorf("%q, all %q: %q", l, name, got)
		}
		got, ok := Get(l, name)
		if ok != (len(values) > 0) || ok && got != values[0] || !ok && got != "" {
			t.Errorf("%q, %q: %q, %v", l, name, got, ok)
		}
		if got := Drop(l, name); !alike(got, api.Letter{Fields: without, Body: l.Body}) {
			t.Errorf("%q without %q: %q", l, name, got)
		}
		if got := Set(l, name, value); !alike(got, api.Letter{Fields: set, Body: l.Body}) {
			t.Errorf("%q, %q set to %q: %q", l, name, value, got)
		}
	}
}

func TestBack(t *testing.T) { // P11.3
	all := []api.Letter{{}, mail("\r\n"), mail("", "A", ""), known()}
	all[3].Fields = all[3].Fields[:6]
	all = append(all,
		api.Letter{Fields: headOf(api.MaxHead), Body: bytes.Repeat([]byte("a\n"), (api.MaxMail-api.MaxHead)/2)},
		api.Letter{Fields: slices.Repeat(fieldsOf("A", "b", "a", "c"), 100)},
		api.Letter{Body: make([]byte, api.MaxMail-2)})
	for n := range 1500 {
		all = append(all, someMail(dice(n)))
	}
	for _, l := range all {
		b, code := Write(l)
		if code != api.OK {
			t.Errorf("%.60q: %v", l.Fields, code)
		}
		if got, code := Read(b); code != api.OK || !alike(got, l) {
			t.Errorf("%.60q: %.60q, %v", l.Fields, got.Fields, code)
		}
	}
}

// withRoom gives a mail whose lists have room behind them, and what stands in that.
func withRoom() (l api.Letter, fields []api.Field, body []byte) {
	fields = fieldsOf("A", "1", "B", "2", "a", "3", "C", "4", "D", "5", "E", "6")
	body = []byte("bodyspare")
	return api.Letter{Fields: fields[:4], Body: body[:4]}, fields, body
}

func TestUnchanged(t *testing.T) { // P11.3: what is handed in isn't changed, nor what stands behind it
	for name, call := range map[string]func(l api.Letter){
		"Write":    func(l api.Letter) { Write(l) },
		"Get":      func(l api.Letter) { Get(l, "a") },
		"All":      func(l api.Letter) { All(l, "a") },
		"Set":      func(l api.Letter) { Set(l, "a", "x") },
		"Set anew": func(l api.Letter) { Set(l, "Z", "x") },
		"Drop":     func(l api.Letter) { Drop(l, "a") },
		"Drop all": func(l api.Letter) { Drop(Drop(Drop(l, "a"), "b"), "c") },
	} {
		l, fields, body := withRoom()
		_, wantFields, wantBody := withRoom()
		call(l)
		if !slices.Equal(fields, wantFields) || !bytes.Equal(body, wantBody) {
			t.Errorf("%s: %q, %q", name, fields, body)
		}
	}
	b := []byte("aheadA: b\n\nbodyspare")
	Read(b[5:15])
	if string(b) != "aheadA: b\n\nbodyspare" {
		t.Errorf("Read: %q", b)
	}
}

// spoil writes over all of a mail, and over the room behind it.
func spoil(l api.Letter) {
	clear(l.Fields[:cap(l.Fields)])
	clear(l.Body[:cap(l.Body)])
}

func TestNewMemory(t *testing.T) { // P11.3, and P2: the same calls give the same answers, whatever becomes of others
	for name, call := range map[string]func(l api.Letter) api.Letter{
		"Set":          func(l api.Letter) api.Letter { return Set(l, "a", "x") },
		"Set anew":     func(l api.Letter) api.Letter { return Set(l, "Z", "x") },
		"Drop":         func(l api.Letter) api.Letter { return Drop(l, "A") },
		"Drop nothing": func(l api.Letter) api.Letter { return Drop(l, "Z") },
	} {
		l, _, _ := withRoom()
		one, two, want := call(l), call(l), call(l)
		spoil(one)
		if !reflect.DeepEqual(two, want) {
			t.Errorf("%s: two answers are one: %q", name, two)
		}
		if again, _, _ := withRoom(); !alike(l, again) {
			t.Errorf("%s: the argument changes with the answer: %q", name, l)
		}
		spoil(l)
		if !reflect.DeepEqual(two, want) {
			t.Errorf("%s: the answer changes with the argument: %q", name, two)
		}
	}
}

func TestNewBytes(t *testing.T) { // P11.3, and P2: of Read, Write and All
	b := []byte("A: b\na: c\n\nbody")
	one, _ := Read(b)
	two, _ := Read(b)
	spoil(one)
	clear(b)
	if !alike(two, mail("body", "A", "b", "a", "c")) {
		t.Errorf("Read: %q", two)
	}
	first, _ := Write(two)
	second, _ := Write(two)
	clear(first[:cap(first)])
	if !alike(two, mail("body", "A", "b", "a", "c")) {
		t.Errorf("Write: the argument changes with the answer: %q", two)
	}
	values, others := All(two, "a"), All(two, "a")
	clear(values[:cap(values)])
	spoil(two)
	if string(second) != "A: b\r\na: c\r\n\r\nbody" {
		t.Errorf("Write: %q", second)
	}
	if !slices.Equal(others, []string{"b", "c"}) {
		t.Errorf("All: %q", others)
	}
}
