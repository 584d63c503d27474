package mime

import (
	"bytes"
	"fmt"
	"reflect"
	"regexp"
	"slices"
	"strings"
	"testing"

	"despatch/api"
	"despatch/armor"
	"despatch/field"
	"despatch/letter"
	"despatch/quoted"
	"despatch/token"
)

// mail gives a mail of a body, and of names and values.
func mail(body string, texts ...string) api.Letter {
	l := api.Letter{Body: []byte(body)}
	for i := 0; i < len(texts); i += 2 {
		l.Fields = append(l.Fields, api.Field{Name: texts[i], Value: texts[i+1]})
	}
	return l
}

// paramsOf gives parameters of names and values.
func paramsOf(texts ...string) []api.Param {
	var list []api.Param
	for i := 0; i < len(texts); i += 2 {
		list = append(list, api.Param{Name: texts[i], Value: texts[i+1]})
	}
	return list
}

// leaf gives a part without others, of the kind a/b.
func leaf(code int, body string) api.Part {
	return api.Part{Kind: "a/b", Code: code, Body: []byte(body)}
}

// multi gives a part of others.
func multi(boundary string, parts ...api.Part) api.Part {
	return api.Part{Kind: "multipart/mixed", Params: paramsOf("boundary", boundary), Parts: parts}
}

// alike tells whether two parts are one: a list without elements and none are.
func alike(a, b api.Part) bool {
	return a.Kind == b.Kind && slices.Equal(a.Params, b.Params) && a.Code == b.Code && bytes.Equal(a.Body, b.Body) && slices.EqualFunc(a.Parts, b.Parts, alike)
}

// alikeMails tells whether two mails are one.
func alikeMails(a, b api.Letter) bool {
	return slices.Equal(a.Fields, b.Fields) && bytes.Equal(a.Body, b.Body)
}

// none tells whether a part is the zero value.
func none(p api.Part) bool { return reflect.DeepEqual(p, api.Part{}) }

// noMail tells whether a mail is the zero value.
func noMail(l api.Letter) bool { return l.Fields == nil && l.Body == nil }

// short gives a mail's beginning.
func short(l api.Letter) string {
	return fmt.Sprintf("%.200q %.100q (%d)", l.Fields, l.Body, len(l.Body))
}

// tell gives a part as a text, of its bytes and its parts the first ones.
func tell(p api.Part) string {
	s := fmt.Sprintf("{%s %.60q %d %.60q", p.Kind, p.Params, p.Code, p.Body)
	for _, each := range p.Parts[:min(len(p.Parts), 5)] {
		s += " " + tell(each)
	}
	return s + "}"
}

// nested gives the mail of so many multiparts in one another, with a mail's bytes inside.
func nested(deep int, inside string) api.Letter {
	for n := range deep {
		mark := fmt.Sprintf("--b%d", n)
		inside = fmt.Sprintf("Content-Type: multipart/mixed; boundary=b%d\n\n%s\n%s\n%s--\n", n, mark, inside, mark)
	}
	l, code := letter.Read([]byte(inside))
	if code != api.OK {
		panic(code)
	}
	return l
}

// nestedPart gives so many multiparts in one another, with a part inside.
func nestedPart(deep int, inside api.Part) api.Part {
	for n := range deep {
		inside = multi(fmt.Sprintf("b%d", n), inside)
	}
	return inside
}

func TestReadKnown(t *testing.T) { // P12.2
	text := api.Part{Kind: "text/plain"}
	for _, c := range []struct {
		l    api.Letter
		want api.Part
	}{
		{api.Letter{}, text},
		{mail("x\n\x00\xff\r", "A", "b"), api.Part{Kind: "text/plain", Body: []byte("x\n\x00\xff\r")}},
		{mail("x", "Content-Type", "a/b"), leaf(api.CodePlain, "x")},
		{mail("x", "cONTENT-tYPE", " A/B (c) "), leaf(api.CodePlain, "x")},
		{mail("x", "Content-Type", "a/b", "content-type", "no kind"), leaf(api.CodePlain, "x")},
		{mail("", "Content-Type", `a/b; C="d e"; c=f`), api.Part{Kind: "a/b", Params: paramsOf("c", "d e", "c", "f")}},
		{mail("x", "Content-Type", "a/multipart; boundary=b"), api.Part{Kind: "a/multipart", Params: paramsOf("boundary", "b"), Body: []byte("x")}},
		{mail("x", "Content-Type", "multipartx/b"), api.Part{Kind: "multipartx/b", Body: []byte("x")}},
		{mail("A A\r\nE=\t", "Content-Type", "a/b", "Content-Transfer-Encoding", "base64"), leaf(api.CodeBase64, "\x00\x01")},
		{mail("", "Content-Type", "a/b", "Content-Transfer-Encoding", "base64"), leaf(api.CodeBase64, "")},
		{mail("a=3d \nb=\nc", "Content-Type", "a/b", "Content-Transfer-Encoding", "quoted-printable"), leaf(api.CodeQuoted, "a=\r\nbc")},
		{mail("a=3d \nb", "Content-Type", "a/b", "Content-Transfer-Encoding", "8bit"), leaf(api.CodePlain, "a=3d \nb")},
		{mail("AA==", "Content-Type", "a/b", "Content-Transfer-Encoding", "base64", "Content-Transfer-Encoding", "x"), leaf(api.CodeBase64, "\x00")},
		{mail("AA==", "Content-Type", "a/b", "Content-Transfer-Encoding", "7bit", "Content-Transfer-Encoding", "base64"), leaf(api.CodePlain, "AA==")},
		{mail("--b\n\n\n--b--", "Content-Type", "multipart/mixed; boundary=b"), multi("b", text)},
		{mail("--b\n\n\n--b--\n--b\nx\n--b--", "Content-Type", "Multipart/Mixed; Boundary=b"), multi("b", text)},
		{mail("--b\n\nx\n--b--", "Content-Type", "multipart/mixed; boundary=b", "Content-Transfer-Encoding", "x"), multi("b", api.Part{Kind: "text/plain", Body: []byte("x")})},
		{mail("--b\n\nx\n--b--", "Content-Type", "multipart/mixed; boundary=b", "Content-Transfer-Encoding", "base64"), multi("b", api.Part{Kind: "text/plain", Body: []byte("x")})},
		{mail("ahead\r\n--b \r\nContent-Type: a/b\r\nContent-Transfer-Encoding:\r\n\tBASE64\r\n\r\nAA==\r\n--b\t\r\n\r\nx\r\n\r\n--b--\r\nbehind", "Content-Type", `MULTIPART/mixed; boundary="b"`), multi("b", leaf(api.CodeBase64, "\x00"), api.Part{Kind: "text/plain", Body: []byte("x\r\n")})},
		{mail("--b?c\n\nx\n--b?c--", "Content-Type", "multipart/alternative; a=c; boundary=b?c; boundary=\"\""), api.Part{Kind: "multipart/alternative", Params: paramsOf("a", "c", "boundary", "b?c", "boundary", ""), Parts: []api.Part{{Kind: "text/plain", Body: []byte("x")}}}},
		{nested(2, "Content-Type: a/b\n\nx\n--c\n"), multi("b1", multi("b0", leaf(api.CodePlain, "x\n--c\n")))},
	} {
		got, code := Read(c.l)
		if code != api.OK || !alike(got, c.want) {
			t.Errorf("%q: %s, %v", c.l, tell(got), code)
		}
	}
}

func TestReadEncodings(t *testing.T) { // P12.2
	bodies := map[int]string{api.CodePlain: "YT0z=3D\n", api.CodeBase64: "YT0z\n", api.CodeQuoted: "YT0z=3D\r\n"}
	told := map[int]string{api.CodePlain: "YT0z=3D\n", api.CodeBase64: "a=3", api.CodeQuoted: "YT0z=\r\n"}
	for name, want := range map[string]int{"": api.CodePlain, "7bit": api.CodePlain, "8bit": api.CodePlain, "binary": api.CodePlain, "base64": api.CodeBase64, "quoted-printable": api.CodeQuoted} {
		for _, name := range []string{name, strings.ToUpper(name), strings.ToUpper(name[:len(name)/2]) + name[len(name)/2:], " " + name + "\t ", "\t" + name} {
			l := mail(bodies[want], "Content-Type", "a/b", "content-transfer-ENCODING", name)
			if p, code := Read(l); code != api.OK || !alike(p, leaf(want, told[want])) {
				t.Errorf("%q: %s, %v", name, tell(p), code)
			}
		}
	}
	for _, name := range []string{"none", "x", "6bit", "7-bit", "7 bit", "7bits", "base6", "base64x", "base64;", "base64 (x)", "(x) base64", `"base64"`, "base32", "quoted", "quoted printable", "quoted_printable", "utf-8", "-", "\x00", "\n", "base64\r", "\vbase64", "7b\u0130t", "b\u0130nary", "ba\u017fe64", "\u00a07bit", "\xff", "8bit 8bit", "8bit,base64"} {
		for _, body := range []string{"", "AAAA"} {
			l := mail(body, "Content-Transfer-Encoding", name)
			if p, code := Read(l); code != api.ErrForm || !none(p) {
				t.Errorf("%q: %s, %v", name, tell(p), code)
			}
		}
	}
	for _, body := range []string{"A", "AB==", "AA=", "AAAA=", "\x00", "AAAA\v", "AA==AA=="} {
		if p, code := Read(mail(body, "Content-Transfer-Encoding", "base64")); code != api.ErrForm || !none(p) {
			t.Errorf("%q: %s, %v", body, tell(p), code)
		}
	}
	for _, body := range []string{"=", "=A", "=0g", "a=b", "= x", "=\r"} {
		p, code := Read(mail(body, "Content-Transfer-Encoding", "quoted-printable"))
		if _, want := quoted.Decode([]byte(body)); code != want || code != api.OK && !none(p) {
			t.Errorf("%q: %s, %v", body, tell(p), code)
		}
	}
}

func TestReadForm(t *testing.T) { // P12.2
	const body = "--b\n\nx\n--b--"
	for _, kind := range []string{"", "x", "a/", "/b", "a/b;", "a/b c", "a/b; c", "a/b; c=", "multipart/", "multipart/;boundary=b", "a/b (", "a/b)", "a/b; c=\"", "multipart/mixed", "multipart/mixed; a=b", "multipart/mixed; boundary=\"\"", "multipart/mixed; boundary=\"a b\"", "multipart/mixed; boundary=\"b \"", "multipart/mixed; boundary=b*", "multipart/mixed; boundary=\"\"; boundary=b", "multipart/mixed; bound=b", "multipart/mixed; boundary*=b", "multipart/mixed; boundary=" + strings.Repeat("b", 71), "MULTIPART/MIXED; BOUNDARY=B", "multipart/mixed; boundary=c"} {
		if p, code := Read(mail(body, "Content-Type", kind)); code != api.ErrForm || !none(p) {
			t.Errorf("%q: %s, %v", kind, tell(p), code)
		}
		if p, code := Read(nested(2, "Content-Type: "+kind+"\n\n"+body)); code != api.ErrForm || !none(p) {
			t.Errorf("%q: %s, %v", kind, tell(p), code)
		}
	}
	for _, kind := range []string{"\u00e9/b", "a/\u212a", "a/b\n", "a/b; c=\"\xff\""} { // what no head could have
		if p, code := Read(mail(body, "Content-Type", kind)); code != api.ErrForm || !none(p) {
			t.Errorf("%q: %s, %v", kind, tell(p), code)
		}
	}
	if p, code := Read(mail(body, "Content-Type", strings.Repeat("(", 10)+"x")); code != api.ErrDeep || !none(p) {
		t.Errorf("%s, %v", tell(p), code)
	}
	for _, body := range []string{"", "x", "--b", "--b--", "--b\nx", "--b\n\n--b--", "--b\n--b--", "--b\n\nx\n--c--", "--b--\n--b\n"} {
		if p, code := Read(mail(body, "Content-Type", "multipart/mixed; boundary=b")); code != api.ErrForm || !none(p) {
			t.Errorf("%q: %s, %v", body, tell(p), code)
		}
	}
}

func TestReadDeep(t *testing.T) { // P12.2
	for _, c := range []struct {
		deep   int
		inside string
		want   api.Errno
	}{
		{1, "\nx", api.OK},
		{8, "\nx", api.OK},
		{8, "Content-Transfer-Encoding: base64\n\nAA==", api.OK},
		{8, "Content-Type: multipartx/a\n\nx", api.OK},
		{9, "\nx", api.ErrDeep},
		{20, "\nx", api.ErrDeep},
		{7, "Content-Type: multipart/a; boundary=b\n\n--b\n\n--b--", api.ErrForm},
		{7, "Content-Type: multipart/a; boundary=b\n\nx", api.ErrForm},
		{8, "Content-Type: multipart/a; boundary=b\n\nx", api.ErrDeep},
		{8, "Content-Type: multipart/a; boundary=b\n\n--b\nx\n--b--", api.ErrDeep},
		{8, "Content-Type: multipart/a\n\nx", api.ErrForm},
		{8, "Content-Type: multipart/a; boundary=\"a b\"\n\nx", api.ErrForm},
		{8, "Content-Type: multipart/a; boundary=\n\nx", api.ErrForm},
		{8, "Content-Transfer-Encoding: x\n\nx", api.ErrForm},
		{8, "x", api.ErrForm},
	} {
		p, code := Read(nested(c.deep, c.inside))
		if code != c.want || code != api.OK && !none(p) {
			t.Errorf("%d, %q: %v, %s", c.deep, c.inside, code, tell(p))
		}
	}
	// Multiparts beside one another stand in no more others.
	beside := nested(7, "\nx")
	b, _ := letter.Write(beside)
	l := mail(strings.Repeat("--c\n"+string(b)+"\n", 20)+"--c--", "Content-Type", "multipart/mixed; boundary=c")
	if p, code := Read(l); code != api.OK || len(p.Parts) != 20 {
		t.Errorf("%v, %d", code, len(p.Parts))
	}
}

func TestReadFirstError(t *testing.T) { // P12.2: of the first part that has one
	texts := map[api.Errno][]string{
		api.OK:          {"\nx", "A: b\n\n", "Content-Type: multipart/a; boundary=c\n\n--c\n\n\n--c--"},
		api.ErrForm:     {"", "x", "Content-Type: x\n\n", "Content-Transfer-Encoding: x\n\n", "Content-Transfer-Encoding: base64\n\nA", "Content-Type: multipart/a; boundary=c\n\n--c\nx\n--c--"},
		api.ErrDeep:     {"Content-Type: " + strings.Repeat("(", 10) + "\n\n", "Content-Type: multipart/a; boundary=c\n\n--c\nContent-Type: " + strings.Repeat("(", 10) + "\n\n\n--c--"},
		api.ErrTooLarge: {strings.Repeat("A: b\n", 201) + "\n", "A: " + strings.Repeat("x", 8193) + "\n\n"},
	}
	kinds := []api.Errno{api.OK, api.ErrForm, api.ErrDeep, api.ErrTooLarge}
	for n := range 2000 {
		roll := dice(n)
		body, want := "", api.OK
		for range roll(4) + 1 {
			kind := kinds[roll(len(kinds))]
			body += "--b\n" + texts[kind][roll(len(texts[kind]))] + "\n"
			if want == api.OK {
				want = kind
			}
		}
		p, code := Read(mail(body+"--b--", "Content-Type", "multipart/mixed; boundary=b"))
		if code != want || code != api.OK && !none(p) {
			t.Errorf("%.200q: %v, want %v", body, code, want)
		}
	}
	for more, want := range []api.Errno{api.OK, api.ErrTooLarge} { // of more than a mail's bytes in all
		body := "--b\n\ny\n--b\n\n" + strings.Repeat("x", api.MaxMail-1+more) + "\n--b--"
		if p, code := Read(mail(body, "Content-Type", "multipart/mixed; boundary=b")); code != want || code != api.OK && !none(p) {
			t.Errorf("%d more than may be: %v", more, code)
		}
	}
}

func TestWriteKnown(t *testing.T) { // P12.3
	head := func(kind, encoding, body string) api.Letter {
		return mail(body, "Content-Type", kind, "Content-Transfer-Encoding", encoding)
	}
	many := func(body string) api.Letter { return mail(body, "Content-Type", "multipart/mixed; boundary=b") }
	const inB = "Content-Type: a/b\r\nContent-Transfer-Encoding: "
	long := strings.Repeat("w", 70)
	for _, c := range []struct {
		p    api.Part
		want api.Letter
	}{
		{api.Part{Kind: "text/plain"}, head("text/plain", "8bit", "")},
		{leaf(api.CodePlain, "x=\n\x00\xff --b\r\n"), head("a/b", "8bit", "x=\n\x00\xff --b\r\n")},
		{leaf(api.CodeBase64, ""), head("a/b", "base64", "")},
		{leaf(api.CodeBase64, strings.Repeat("\x00", 58)), head("a/b", "base64", strings.Repeat("A", 76)+"\r\nAA==\r\n")},
		{leaf(api.CodeQuoted, "a=b\n\r\n "), head("a/b", "quoted-printable", "a=3Db=0A\r\n=20")},
		{api.Part{Kind: "a/b", Params: paramsOf("c", "d", "c", "e f", "boundary", "\"")}, head(`a/b; c=d; c="e f"; boundary="\""`, "8bit", "")},
		{multi("b", leaf(api.CodePlain, "x")), many("--b\r\n" + inB + "8bit\r\n\r\nx\r\n--b--\r\n")},
		{multi("b", leaf(api.CodePlain, ""), leaf(api.CodeQuoted, "\r\n"), leaf(api.CodeBase64, "\x00")), many("--b\r\n" + inB + "8bit\r\n\r\n\r\n--b\r\n" + inB + "quoted-printable\r\n\r\n\r\n\r\n--b\r\n" + inB + "base64\r\n\r\nAA==\r\n\r\n--b--\r\n")},
		{multi("b", multi("c", leaf(api.CodePlain, "x"))), many("--b\r\nContent-Type: multipart/mixed; boundary=c\r\n\r\n--c\r\n" + inB + "8bit\r\n\r\nx\r\n--c--\r\n\r\n--b--\r\n")},
		{multi("b", api.Part{Kind: "a/b", Params: paramsOf("c", long)}), many("--b\r\nContent-Type: a/b;\r\n c=" + long + "\r\nContent-Transfer-Encoding: 8bit\r\n\r\n\r\n--b--\r\n")},
		{api.Part{Kind: "multipart/x", Params: paramsOf("a", "b", "boundary", "c", "boundary", "a b"), Parts: []api.Part{leaf(api.CodePlain, "--b--")}, Body: []byte{}}, mail("--c\r\n"+inB+"8bit\r\n\r\n--b--\r\n--c--\r\n", "Content-Type", `multipart/x; a=b; boundary=c; boundary="a b"`)},
	} {
		if got, code := Write(c.p); code != api.OK || !alikeMails(got, c.want) {
			t.Errorf("%s: %q, %v, want %q", tell(c.p), got, code, c.want)
		}
	}
}

func TestWriteForm(t *testing.T) { // P12.3
	deep := nestedPart(9, leaf(0, ""))
	large := leaf(0, strings.Repeat("x", api.MaxMail))
	for i, p := range []api.Part{
		{},
		{Kind: "a"},
		{Kind: "A/b"},
		{Kind: "a/b "},
		{Kind: "Multipart/mixed", Params: paramsOf("boundary", "b"), Parts: []api.Part{leaf(0, "")}},
		{Kind: "multipart/", Params: paramsOf("boundary", "b"), Parts: []api.Part{leaf(0, "")}},
		{Kind: "a/b", Params: paramsOf("C", "d")},
		{Kind: "a/b", Params: paramsOf("", "d")},
		{Kind: "a/b", Params: paramsOf("c", "d\n")},
		{Kind: "a/b", Params: paramsOf("c", "\u00e9")},
		{Kind: "a/b", Params: paramsOf("c", strings.Repeat("d", api.MaxValue-6))},
		{Kind: "a/b", Params: paramsOf("c", strings.Repeat("d", api.MaxValue)), Body: large.Body},
		leaf(-1, ""),
		leaf(3, ""),
		leaf(1<<40, "x"),
		leaf(3, string(large.Body)),
		{Kind: "a/b", Parts: []api.Part{leaf(0, "")}},
		{Kind: "a/b", Parts: []api.Part{large}},
		{Kind: "a/b", Parts: []api.Part{deep}},
		{Kind: "a/b", Params: paramsOf("boundary", "b"), Parts: []api.Part{leaf(0, "")}},
		{Kind: "multipart/mixed"},
		{Kind: "multipart/mixed", Params: paramsOf("boundary", "b")},
		{Kind: "multipart/mixed", Parts: []api.Part{leaf(0, "")}},
		{Kind: "multipart/mixed", Params: paramsOf("boundary", "b"), Parts: []api.Part{}, Body: []byte("x")},
		{Kind: "multipart/mixed", Params: paramsOf("boundary", "b"), Parts: []api.Part{leaf(0, "")}, Code: 1},
		{Kind: "multipart/mixed", Params: paramsOf("boundary", "b"), Parts: []api.Part{leaf(0, "")}, Code: -1},
		{Kind: "multipart/mixed", Params: paramsOf("boundary", "b"), Parts: []api.Part{leaf(0, "")}, Body: []byte("x")},
		{Kind: "multipart/mixed", Params: paramsOf("boundary", "b"), Parts: []api.Part{large}, Body: []byte("x")},
		{Kind: "multipart/mixed", Params: paramsOf("boundary", ""), Parts: []api.Part{leaf(0, "")}},
		{Kind: "multipart/mixed", Params: paramsOf("boundary", "a b"), Parts: []api.Part{deep}},
		{Kind: "multipart/mixed", Params: paramsOf("boundary", "\"", "boundary", "b"), Parts: []api.Part{leaf(0, "")}},
		{Kind: "multipart/mixed", Params: paramsOf("boundary", strings.Repeat("b", 71)), Parts: []api.Part{leaf(0, "")}},
		{Kind: "multipart/mixed", Params: paramsOf("boundary", "b", "c", strings.Repeat("d", api.MaxValue)), Parts: []api.Part{leaf(0, "")}},
	} {
		for _, whole := range []api.Part{p, multi("x", p), multi("x", leaf(0, "y"), p, deep), multi("x", p, large)} {
			if l, code := Write(whole); code != api.ErrForm || !noMail(l) {
				t.Errorf("%d: %v, %s", i, code, short(l))
			}
		}
	}
	if _, code := Write(api.Part{Kind: "a/b", Params: paramsOf("c", strings.Repeat("d", api.MaxValue-7))}); code != api.OK {
		t.Errorf("as long a value as may be: %v", code)
	}
}

func TestWriteDeep(t *testing.T) { // P12.3
	for _, c := range []struct {
		p    api.Part
		want api.Errno
	}{
		{nestedPart(8, leaf(0, "x")), api.OK},
		{nestedPart(9, leaf(0, "x")), api.ErrDeep},
		{nestedPart(20, leaf(0, "x")), api.ErrDeep},
		{nestedPart(9, leaf(3, "x")), api.ErrDeep},
		{nestedPart(8, leaf(3, "x")), api.ErrForm},
		{nestedPart(8, multi("c", leaf(0, "--c"))), api.ErrDeep},
		{nestedPart(7, multi("c", leaf(0, "--c"))), api.ErrForm},
		{nestedPart(8, multi("c")), api.ErrForm},
		{nestedPart(8, multi("", leaf(0, "x"))), api.ErrForm},
		{nestedPart(8, api.Part{Kind: "multipart/A", Params: paramsOf("boundary", "b"), Parts: []api.Part{leaf(0, "x")}}), api.ErrForm},
		{nestedPart(8, api.Part{Kind: "multipart/a", Params: paramsOf("boundary", "b"), Parts: []api.Part{leaf(0, "x")}, Code: 1}), api.ErrForm},
		{multi("c", leaf(0, ""), nestedPart(8, leaf(0, "x")), leaf(3, "")), api.ErrDeep},
		{multi("c", leaf(0, ""), leaf(3, ""), nestedPart(8, leaf(0, "x"))), api.ErrForm},
		{multi("c", leaf(0, "--c"), nestedPart(8, leaf(0, "x"))), api.ErrDeep},
		{api.Part{Kind: "multipart/a", Params: paramsOf("boundary", "b", "c", strings.Repeat("d", api.MaxValue)), Parts: []api.Part{nestedPart(8, leaf(0, "x"))}}, api.ErrDeep},
	} {
		if l, code := Write(c.p); code != c.want || code != api.OK && !noMail(l) {
			t.Errorf("%s: %v, %s", tell(c.p), code, short(l))
		}
	}
	// A part that stands in itself is too deep in one another, too.
	own := multi("b", leaf(0, "x"), leaf(0, "y"))
	own.Parts[1] = own
	if l, code := Write(own); code != api.ErrDeep || !noMail(l) {
		t.Errorf("%v", code)
	}
}

func TestWriteBoundaryWithin(t *testing.T) { // P12.3: Split must tell the parts' mails
	for line, want := range map[string]api.Errno{
		"--b": api.ErrForm, "--b--": api.ErrForm, "--b \t": api.ErrForm, "--b--\t": api.ErrForm,
		" --b": api.OK, "--b\r": api.OK, "--bb": api.OK, "--b-": api.OK, "--b---": api.OK, "-b": api.OK, "b--": api.OK, "--": api.OK, "----": api.OK, "--B": api.OK, "--b\v": api.OK, "--b --": api.OK,
	} {
		for _, body := range []string{line, "x\r\n" + line, line + "\r\nx", "x\n" + line + "\r\ny", line + "\r\n"} {
			for _, p := range []api.Part{
				multi("b", leaf(0, body)),
				multi("b", leaf(0, ""), leaf(0, body)),
				multi("b", leaf(0, body), leaf(0, "")),
				multi("b", multi("c", leaf(0, body))),
				multi("c", multi("b", leaf(0, body), leaf(0, "x"))),
			} {
				if l, code := Write(p); code != want || code != api.OK && !noMail(l) {
					t.Errorf("%s: %v, %q", tell(p), code, l)
				}
			}
			for _, p := range []api.Part{leaf(0, body), multi("b", leaf(api.CodeBase64, body)), multi("bbb", leaf(0, body))} {
				if _, code := Write(p); code != api.OK {
					t.Errorf("%s: %v", tell(p), code)
				}
			}
		}
	}
	for _, p := range []api.Part{multi("b", multi("b", leaf(0, ""))), multi("b", multi("c", multi("b", leaf(0, "")))), multi("b--", multi("b", leaf(0, ""))), multi("b", leaf(api.CodeQuoted, "--b")), multi("b", leaf(0, "--b\nx"))} {
		if l, code := Write(p); code != api.ErrForm || !noMail(l) {
			t.Errorf("%s: %v, %q", tell(p), code, l)
		}
	}
	for _, p := range []api.Part{multi("b", multi("b--", leaf(0, ""))), multi("b", multi("bb", leaf(0, "")))} {
		if _, code := Write(p); (code == api.OK) != (p.Parts[0].Params[0].Value == "bb") {
			t.Errorf("%s: %v", tell(p), code)
		}
	}
}

func TestWriteTooLarge(t *testing.T) { // P12.3
	const headSize = len("Content-Type: a/b\r\nContent-Transfer-Encoding: 8bit\r\n\r\n")
	const aroundSize = len("Content-Type: multipart/mixed; boundary=b\r\n\r\n--b\r\n") + len("\r\n--b--\r\n")
	sized := func(size int) api.Part { return leaf(0, strings.Repeat("x", size)) }
	room := api.MaxMail - headSize
	armored := (room - len("base64") + len("8bit")) / 78 * 57
	quotable := (room - len("quoted-printable") + len("8bit"))
	half := sized(api.MaxMail / 2)
	for i, c := range []struct {
		p    api.Part
		want api.Errno
	}{
		{sized(room), api.OK},
		{sized(room + 1), api.ErrTooLarge},
		{sized(1 << 22), api.ErrTooLarge},
		{leaf(api.CodeBase64, strings.Repeat("x", armored)), api.OK},
		{leaf(api.CodeBase64, strings.Repeat("x", armored+57)), api.ErrTooLarge},
		{leaf(api.CodeQuoted, strings.Repeat("\r\n", quotable/2)), api.OK},
		{leaf(api.CodeQuoted, strings.Repeat("\r\n", quotable/2+1)), api.ErrTooLarge},
		{leaf(api.CodeQuoted, strings.Repeat("\n", quotable/3)), api.ErrTooLarge},
		{multi("b", sized(room-aroundSize)), api.OK},
		{multi("b", sized(room-aroundSize+1)), api.ErrTooLarge},
		{multi("b", sized(room+1)), api.ErrTooLarge},
		{multi("b", half, half), api.ErrTooLarge},
		{multi("b", half, half, half, half), api.ErrTooLarge},
		{multi("b", sized(room+1), leaf(3, "")), api.ErrTooLarge},
		{multi("b", leaf(3, ""), sized(room+1)), api.ErrForm},
		{multi("b", half, half, leaf(3, "")), api.ErrForm},
		{multi("b", half, half, nestedPart(8, leaf(0, ""))), api.ErrDeep},
		{multi("b", sized(room+1), nestedPart(8, leaf(0, ""))), api.ErrTooLarge},
		{multi("b", half, half, leaf(0, "--b")), api.ErrForm},
		{multi("b", multi("c", half, half), leaf(0, "--b")), api.ErrTooLarge},
	} {
		if l, code := Write(c.p); code != c.want || code != api.OK && !noMail(l) {
			t.Errorf("%d: %v, %s", i, code, short(l))
		}
	}
}

// slowWrite gives the bytes of a part's mail as the chapter tells it, if it may be and isn't too large.
func slowWrite(p api.Part, others int) (string, api.Errno) {
	value, code := token.Write(p.Kind, p.Params)
	if code != api.OK {
		return "", code
	}
	fold := func(name, value string) string {
		b, _ := field.Fold(api.Field{Name: name, Value: value})
		return string(b)
	}
	head := fold("Content-Type", value)
	if !strings.HasPrefix(p.Kind, "multipart/") {
		if p.Code < 0 || p.Code > 2 || len(p.Parts) > 0 {
			return "", api.ErrForm
		}
		head += fold("Content-Transfer-Encoding", []string{"8bit", "base64", "quoted-printable"}[p.Code]) + "\r\n"
		return head + []string{string(p.Body), string(armor.Lines(p.Body)), string(quoted.Encode(p.Body))}[p.Code], api.OK
	}
	at := slices.IndexFunc(p.Params, func(x api.Param) bool { return x.Name == "boundary" })
	if len(p.Parts) == 0 || p.Code != 0 || len(p.Body) > 0 || at < 0 || !boundaryForm.MatchString(p.Params[at].Value) {
		return "", api.ErrForm
	}
	if others > 7 {
		return "", api.ErrDeep
	}
	boundary := p.Params[at].Value
	within := regexp.MustCompile(`(?:\A|\n)--` + regexp.QuoteMeta(boundary) + `(?:--)?[ \t]*(?:\r?\n|\z)`)
	body, wrong := "", false
	for _, each := range p.Parts {
		mail, code := slowWrite(each, others+1)
		if code != api.OK {
			return "", code
		}
		wrong = wrong || within.MatchString(mail)
		body += "--" + boundary + "\r\n" + mail + "\r\n"
	}
	if wrong {
		return "", api.ErrForm
	}
	return head + "\r\n" + body + "--" + boundary + "--\r\n", api.OK
}

// somePart gives a part of no order, mostly one that may be.
func somePart(roll func(n int) int, others int) api.Part {
	p := api.Part{Kind: []string{"a/b", "text/plain", "x-y/multipart"}[roll(3)]}
	for range roll(3) {
		name, value := []string{"c", "d", "charset", "boundary"}[roll(4)], ""
		for range roll(6) {
			value += []string{"word", "b", " ", "\t", "\"", "\\", ";", "(", "/", "="}[roll(10)]
		}
		p.Params = append(p.Params, api.Param{Name: name, Value: value})
	}
	if roll(10) < 6-others/2 {
		p.Kind = "multipart/" + []string{"mixed", "x"}[roll(2)]
		boundary := []string{"b", "c", "b--", "d=", strings.Repeat("e.", 35)}[roll(5)]
		p.Params = slices.Insert(p.Params, min(roll(2), len(p.Params)), api.Param{Name: "boundary", Value: boundary})
		for range 1 + roll(3) {
			p.Parts = append(p.Parts, somePart(roll, others+1))
		}
		return p
	}
	p.Code = roll(3)
	for range roll(12) {
		p.Body = append(p.Body, []string{"\r\n", "\n", "\r", " ", "--", "--b", "\n--b", "\n--c--", "\n--d=", "=", ".", "\x00", "\xff", "word "}[roll(14)]...)
	}
	if roll(40) == 0 {
		p.Code += 3 * (roll(3) - 1)
	}
	if roll(40) == 0 {
		p.Parts = append(p.Parts, leaf(0, ""))
	}
	return p
}

func TestBack(t *testing.T) { // P12.3, P12.4
	many := map[api.Errno]int{}
	for n := range 20000 {
		p := somePart(dice(n), 0)
		l, code := Write(p)
		want, wrong := slowWrite(p, 0)
		many[code]++
		if code != wrong || code != api.OK && !noMail(l) {
			t.Errorf("%s: %v, want %v", tell(p), code, wrong)
		}
		if code != api.OK {
			continue
		}
		b, _ := letter.Write(l)
		if string(b) != want {
			t.Errorf("%s: %q, want %q", tell(p), b, want)
		}
		if back, code := Read(l); code != api.OK || !alike(back, p) {
			t.Errorf("%s: read of it is %s, %v", tell(p), tell(back), code)
		}
		sent, _ := letter.Read(b)
		if back, code := Read(sent); code != api.OK || !alike(back, p) {
			t.Errorf("%s: read of its mail's bytes is %s, %v", tell(p), tell(back), code)
		}
	}
	if many[api.OK] < 5000 || many[api.ErrForm] < 1000 {
		t.Errorf("too few of one kind: %v", many)
	}
}

func TestBackLarge(t *testing.T) { // P12.4
	whole := make([]byte, 1<<20)
	roll := dice(1)
	for i := range whole {
		whole[i] = byte(roll(256))
	}
	b := string(whole)
	spaced := api.Part{Kind: "a/b", Params: paramsOf("c", strings.Repeat(" x\t", 2500)), Body: whole}
	for _, p := range []api.Part{leaf(0, b), leaf(1, b), leaf(2, b[:1<<19]), nestedPart(8, leaf(0, b)), nestedPart(8, leaf(1, b)), nestedPart(4, multi("x", leaf(2, b[:1<<18]), leaf(1, b[:1<<18]), leaf(0, b[:1<<18]))), nestedPart(2, spaced)} {
		l, code := Write(p)
		if code != api.OK {
			t.Errorf("%s: %v", tell(p), code)
		}
		if back, code := Read(l); code != api.OK || !alike(back, p) {
			t.Errorf("%s: %v", tell(p), code)
		}
	}
	many := multi("b", slices.Repeat([]api.Part{leaf(0, "x"), leaf(1, "y")}, 10000)...)
	l, code := Write(many)
	if code != api.OK {
		t.Fatal(code)
	}
	if back, code := Read(l); code != api.OK || !alike(back, many) {
		t.Errorf("%d, %v", len(back.Parts), code)
	}
}

// spoilPart writes over all of a part, and over the room behind its lists.
func spoilPart(p api.Part) {
	for _, each := range p.Parts {
		spoilPart(each)
	}
	clear(p.Params[:cap(p.Params)])
	clear(p.Body[:cap(p.Body)])
	clear(p.Parts[:cap(p.Parts)])
}

// spoilMail writes over all of a mail, and over the room behind its lists.
func spoilMail(l api.Letter) {
	clear(l.Fields[:cap(l.Fields)])
	clear(l.Body[:cap(l.Body)])
}

// roomy gives parts whose lists have room behind them.
func roomy() []api.Part {
	body := func(s string) []byte { return append(make([]byte, 0, 64), s...) }
	var parts []api.Part
	for code := range 3 {
		p := api.Part{Kind: "a/b", Params: append(make([]api.Param, 0, 8), paramsOf("c", "d", "e", "f g")...), Code: code, Body: body("body=\r\n")}
		parts = append(parts, p, multi("b", p))
	}
	all := append(make([]api.Part, 0, 9), leaf(0, ""), leaf(1, "x"), multi("c", leaf(2, "y"), leaf(0, "z")))
	return append(parts, multi("b", all...))
}

func TestMemory(t *testing.T) { // P12.4, and P2: the same calls give the same answers, whatever becomes of others
	for i, want := range roomy() {
		p := roomy()[i]
		one, code := Write(p)
		two, _ := Write(p)
		mail, _ := Write(want)
		if code != api.OK {
			t.Fatal(code)
		}
		spoilMail(one)
		if !alike(p, want) {
			t.Errorf("%s: the argument of Write changes, or with the answer: %s", tell(want), tell(p))
		}
		spoilPart(p)
		if !alikeMails(two, mail) {
			t.Errorf("%s: the answer of Write changes with another, or with the argument: %q", tell(want), two)
		}
		first, code := Read(two)
		second, _ := Read(two)
		if code != api.OK || !alike(first, want) {
			t.Fatalf("%s, %v", tell(first), code)
		}
		spoilPart(first)
		if !alikeMails(two, mail) {
			t.Errorf("%s: the argument of Read changes, or with the answer: %q", tell(want), two)
		}
		spoilMail(two)
		if !alike(second, want) {
			t.Errorf("%s: the answer of Read changes with another, or with the argument: %s", tell(want), tell(second))
		}
	}
}

func TestAnything(t *testing.T) { // P1, P12.2: whatever the bytes are, it ends, and gives a part or an error alone
	many := map[api.Errno]int{}
	for n := range 20000 {
		roll, s := dice(n), ""
		for range roll(25) {
			s += []string{"Content-Type: multipart/a; boundary=b\n", "Content-Type: multipart/a; boundary=c\n", "Content-Type: a/b\n", "Content-Transfer-Encoding: base64\n", "Content-Transfer-Encoding: quoted-printable\n", "\n", "\r\n", "--b\n", "--c\n", "--b--\n", "--c--\n", "AAAA", "=", "x", "A: b\n"}[roll(15)]
		}
		l, code := letter.Read([]byte("Content-Type: multipart/a; boundary=b\n\n--b\n" + s + "\n--c--\n--b--"))
		if code != api.OK {
			t.Fatal(code)
		}
		p, code := Read(l)
		many[code]++
		if code != api.OK && !none(p) {
			t.Errorf("%q: %s, %v", s, tell(p), code)
		}
		want, wrong := slowRead(l, 0)
		if code != wrong || !alike(p, want) {
			t.Errorf("%q: %s, %v, want %s, %v", s, tell(p), code, tell(want), wrong)
		}
	}
	if many[api.OK] < 500 || many[api.ErrForm] < 500 {
		t.Errorf("too few of one kind: %v", many)
	}
}

// slowRead is Read as the chapter tells it, of encodings that are small letters alone.
func slowRead(l api.Letter, others int) (api.Part, api.Errno) {
	kinds, ways := letter.All(l, "Content-Type"), letter.All(l, "Content-Transfer-Encoding")
	kind, params, code := token.Params(append(kinds, "text/plain")[0])
	if code != api.OK {
		return api.Part{}, code
	}
	p := api.Part{Kind: kind, Params: params}
	if !strings.HasPrefix(kind, "multipart/") {
		switch append(ways, "")[0] {
		case "base64":
			p.Code = api.CodeBase64
			p.Body, code = armor.Read(l.Body)
		case "quoted-printable":
			p.Code = api.CodeQuoted
			p.Body, code = quoted.Decode(l.Body)
		default:
			p.Body = l.Body
		}
		if code != api.OK {
			return api.Part{}, code
		}
		return p, api.OK
	}
	if others > 7 {
		return api.Part{}, api.ErrDeep
	}
	list, code := slowSplit(string(l.Body), params[0].Value)
	for _, b := range list {
		var inside api.Letter
		var each api.Part
		if inside, code = letter.Read(b); code == api.OK {
			each, code = slowRead(inside, others+1)
		}
		if code != api.OK {
			break
		}
		p.Parts = append(p.Parts, each)
	}
	if code != api.OK {
		return api.Part{}, code
	}
	return p, api.OK
}
