package quoted

import (
	"bytes"
	"fmt"
	"io"
	"mime/quotedprintable"
	"regexp"
	"slices"
	"strconv"
	"strings"
	"testing"

	"despatch/api"
)

// row gives n bytes that seem to be of no order.
func row(n, first int) []byte {
	b := make([]byte, n)
	x := uint32(first)*2654435761 + 12345
	for i := range b {
		x = x*1664525 + 1013904223
		b[i] = byte(x >> 24)
	}
	return b
}

// textsOf gives all texts of some pieces, up to a number of them.
func textsOf(most int, pieces ...string) []string {
	all, last := []string{""}, []string{""}
	for range most {
		var longer []string
		for _, s := range last {
			for _, piece := range pieces {
				longer = append(longer, s+piece)
			}
		}
		all, last = append(all, longer...), longer
	}
	return all
}

// slowEncode is Encode as the chapter tells it: line by line, each byte's signs first, then where they go.
func slowEncode(b []byte) string {
	var lines []string
	for _, line := range strings.Split(string(b), "\r\n") {
		var items []string
		for i, c := range []byte(line) {
			item := fmt.Sprintf("=%02X", c)
			if c >= 33 && c <= 126 && c != 61 || (c == 32 || c == 9) && i != len(line)-1 {
				item = string([]byte{c})
			}
			items = append(items, item)
		}
		told := ""
		for i, item := range items {
			whole := told + item
			if len(whole) > 76 || len(whole) > 75 && i != len(items)-1 {
				lines = append(lines, told+"=")
				whole = item
			}
			told = whole
		}
		lines = append(lines, told)
	}
	return strings.Join(lines, "\r\n")
}

// piece is what may stand at the beginning, the first that fits: a byte's digits, a soft end, a = that is wrong, a line's end, blanks at the end, and all else.
var piece = regexp.MustCompile(`(?s)\A(?:(=[0-9A-Fa-f]{2})|(=[ \t]*(?:\r\n|\n|\z))|(=)|([ \t]*(?:\r\n|\n))|([ \t]+\z)|.)`)

// slowDecode is Decode as the chapter tells it, piece by piece.
func slowDecode(b []byte) (string, bool) {
	var made strings.Builder
	for len(b) > 0 {
		at := piece.FindSubmatchIndex(b)
		switch found := b[:at[1]]; {
		case at[2] >= 0:
			c, _ := strconv.ParseUint(string(found[1:]), 16, 8)
			made.WriteByte(byte(c))
		case at[4] >= 0 || at[10] >= 0:
		case at[6] >= 0:
			return "", false
		case at[8] >= 0:
			made.WriteString("\r\n")
		default:
			made.Write(found)
		}
		b = b[at[1]:]
	}
	return made.String(), true
}

// lawful tells what is wrong with lines that Encode made, if anything is.
func lawful(made []byte) string {
	for _, line := range strings.Split(string(made), "\r\n") {
		if len(line) > 76 {
			return "a line is too long"
		}
		if strings.HasSuffix(line, " ") || strings.HasSuffix(line, "\t") {
			return "a line ends with a blank"
		}
		for _, c := range []byte(line) {
			if (c < 33 || c > 126) && c != 32 && c != 9 {
				return "a byte stands there that isn't printed"
			}
		}
	}
	return ""
}

// tryEncode holds Encode against the slow one, and what comes back against what it was.
func tryEncode(t *testing.T, b []byte) {
	t.Helper()
	made := Encode(b)
	if want := slowEncode(b); string(made) != want {
		t.Errorf("%q: %q, want %q", b, made, want)
	}
	if wrong := lawful(made); wrong != "" {
		t.Errorf("%q: %q: %s", b, made, wrong)
	}
	if back, code := Decode(made); code != api.OK || !bytes.Equal(back, b) {
		t.Errorf("%q: back it is %q, %v", b, back, code)
	}
}

// tryDecode holds Decode against the slow one.
func tryDecode(t *testing.T, s string) {
	t.Helper()
	want, ok := slowDecode([]byte(s))
	got, code := Decode([]byte(s))
	if ok && (code != api.OK || string(got) != want) {
		t.Errorf("%q: %q, %v, want %q", s, got, code, want)
	}
	if !ok && (code != api.ErrForm || got != nil) {
		t.Errorf("%q: %q, %v, want ErrForm", s, got, code)
	}
}

func TestPlain(t *testing.T) { // P7.1
	for i := range 256 {
		c := byte(i)
		if got, want := Plain(c), i >= 33 && i <= 126 && i != 61; got != want {
			t.Errorf("%d: %v", c, got)
		}
		want := fmt.Sprintf("=%02X", c)
		if Plain(c) {
			want = string([]byte{c})
		}
		if got := Encode([]byte{c}); string(got) != want {
			t.Errorf("%d: %q, want %q", c, got, want)
		}
		if c == ' ' || c == '\t' {
			want = string([]byte{c})
		}
		if got := Encode([]byte{'a', c, 'b'}); string(got) != "a"+want+"b" {
			t.Errorf("%d in the midst: %q, want %q", c, got, want)
		}
	}
}

func TestEncodeKnown(t *testing.T) { // P7.1, and the chapter's example
	a := func(n int) string { return strings.Repeat("a", n) }
	for b, want := range map[string]string{
		"":                     "",
		"\u00e9 ":              "=C3=A9=20",
		"=":                    "=3D",
		"!~ \t.":               "!~ \t.",
		"a ":                   "a=20",
		"a\t":                  "a=09",
		" ":                    "=20",
		"  ":                   " =20",
		"a \r\n":               "a=20\r\n",
		"a \t\r\nb":            "a =09\r\nb",
		" \r":                  " =0D",
		" \n":                  " =0A",
		"\r":                   "=0D",
		"\n":                   "=0A",
		"\n\r":                 "=0A=0D",
		"\r\n":                 "\r\n",
		"\r\n\r\n":             "\r\n\r\n",
		"\r\r\n\n":             "=0D\r\n=0A",
		"a\r\n.\r\n":           "a\r\n.\r\n",
		"\x00\x7f\x80\xff":     "=00=7F=80=FF",
		a(75):                  a(75),
		a(76):                  a(76),
		a(77):                  a(75) + "=\r\n" + a(2),
		a(76) + "\r\n":         a(76) + "\r\n",
		a(76) + "\r":           a(75) + "=\r\na=0D",
		a(76) + "\n":           a(75) + "=\r\na=0A",
		a(76) + "\r\nb":        a(76) + "\r\nb",
		a(77) + "\r\nb":        a(75) + "=\r\n" + a(2) + "\r\nb",
		a(73) + "=":            a(73) + "=3D",
		a(73) + "=\r\n":        a(73) + "=3D\r\n",
		a(73) + "=b":           a(73) + "=\r\n=3Db",
		a(72) + "=b":           a(72) + "=3Db",
		a(72) + "=bc":          a(72) + "=3D=\r\nbc",
		a(74) + "=":            a(74) + "=\r\n=3D",
		a(75) + "=":            a(75) + "=\r\n=3D",
		a(73) + " ":            a(73) + "=20",
		a(74) + " ":            a(74) + "=\r\n=20",
		a(75) + " \r\nx":       a(75) + "=\r\n=20\r\nx",
		a(74) + " bc":          a(74) + " =\r\nbc",
		a(75) + " bc":          a(75) + "=\r\n bc",
		a(75) + "b" + a(76):    a(75) + "=\r\nb" + a(74) + "=\r\n" + a(2),
		a(75) + a(76):          a(75) + "=\r\n" + a(76),
		a(75) + a(75) + a(1):   a(75) + "=\r\n" + a(76),
		a(75) + a(75) + a(2):   a(75) + "=\r\n" + a(75) + "=\r\n" + a(2),
		a(40) + "\r\n" + a(76): a(40) + "\r\n" + a(76),
	} {
		if got := Encode([]byte(b)); string(got) != want {
			t.Errorf("%q: %q, want %q", b, got, want)
		}
	}
}

func TestEncodeShort(t *testing.T) { // P7.1: all short texts, at each place by a line's end
	texts := textsOf(5, "a", "=", " ", "\t", "\r", "\n", "\xff")
	for _, s := range texts {
		tryEncode(t, []byte(s))
	}
	for _, s := range textsOf(4, "a", "=", " ", "\r", "\n") {
		for n := 68; n <= 77; n++ {
			tryEncode(t, []byte(strings.Repeat("a", n)+s))
		}
		tryEncode(t, []byte(strings.Repeat("\xff", 24)+s))
		tryEncode(t, []byte(strings.Repeat("\xff", 25)+s))
		tryEncode(t, []byte(strings.Repeat("b", 148)+s))
	}
}

func TestEncodeLong(t *testing.T) { // P7.1: bytes of all kinds, lines of all lengths
	for n := range 400 {
		tryEncode(t, row(n, n))
		tryEncode(t, bytes.Repeat([]byte{' '}, n))
		b := row(n, n)
		for i, c := range b {
			b[i] = "abc =\r\n\t"[c%8]
		}
		tryEncode(t, b)
	}
}

func TestDecodeKnown(t *testing.T) { // P7.1: what others may write, too
	for s, want := range map[string]string{
		"":                  "",
		"=3d=3D=aF=Fa":      "==\xaf\xfa",
		"a=":                "a",
		"a= ":               "a",
		"a=\t \t":           "a",
		"a=\r\nb":           "ab",
		"a=\nb":             "ab",
		"a= \t\r\nb":        "ab",
		"a= \nb":            "ab",
		"=\r\n=\r\n":        "",
		"=\r\n \r\n":        "\r\n",
		"=\n\n":             "\r\n",
		"a =\r\n b":         "a  b",
		"a \t\nb":           "a\r\nb",
		"a \t\r\nb":         "a\r\nb",
		"a  ":               "a",
		"  ":                "",
		"  \n\t\r\n ":       "\r\n\r\n",
		" a b":              " a b",
		"\t\ta":             "\t\ta",
		"=20":               " ",
		"=20\n":             " \r\n",
		"=20 \n":            " \r\n",
		" =20":              "  ",
		"\n":                "\r\n",
		"\n\n":              "\r\n\r\n",
		"\r":                "\r",
		"\r\n":              "\r\n",
		"\r\r\n":            "\r\r\n",
		"\n\r":              "\r\n\r",
		" \r":               " \r",
		" \ra":              " \ra",
		"\r \n":             "\r\r\n",
		"=0D\n":             "\r\r\n",
		"=0D=0A":            "\r\n",
		"\x00\x7f\x80\xff~": "\x00\x7f\x80\xff~",
		"\u00e9\u00a0":      "\u00e9\u00a0",
	} {
		if got, code := Decode([]byte(s)); code != api.OK || string(got) != want {
			t.Errorf("%q: %q, %v, want %q", s, got, code, want)
		}
	}
	long := strings.Repeat("a b", 500)
	if got, code := Decode([]byte(long)); code != api.OK || string(got) != long {
		t.Errorf("a long line: %q, %v", got, code)
	}
}

func TestDecodeWrong(t *testing.T) { // P7.1
	for _, s := range []string{
		"=4", "=4G", "=G4", "=g0", "=0g", "=/0", "=0/", "=:0", "=0:", "=@0", "=0@", "=`0", "=0`", "==", "=3", "=\xff0",
		"= x", "=x", "= 41", "=4 1", "=\rx", "=\r", "= \r", "=\r\r\n", "=  =", "= \t=\r\n", "==3D", "a=\x0b", "=4\r\n", "=\x0041",
		"good=41 and bad=4", "bad=4Gand good",
	} {
		if got, code := Decode([]byte(s)); code != api.ErrForm || got != nil {
			t.Errorf("%q: %q, %v", s, got, code)
		}
	}
}

func TestDecodeDigits(t *testing.T) { // P7.1: any two bytes behind =
	for i := range 1 << 16 {
		tryDecode(t, string([]byte{'=', byte(i >> 8), byte(i)}))
		tryDecode(t, string([]byte{'=', byte(i >> 8), byte(i), 'x'}))
	}
}

func TestDecodeShort(t *testing.T) { // P7.1: all short texts, right ones and wrong ones
	for _, s := range textsOf(6, "=", " ", "\t", "\r", "\n", "4", "x") {
		tryDecode(t, s)
	}
	for i := range 256 {
		tryDecode(t, string([]byte{byte(i)}))
		tryDecode(t, string([]byte{' ', byte(i), ' ', 'x'}))
	}
}

func TestDecodeOthers(t *testing.T) { // P7.1: what another program writes
	for n := range 300 {
		b := row(n, n)
		for i, c := range b {
			if c%3 > 0 {
				b[i] = "abc =\t"[c%6]
			}
			if b[i] == '\r' || b[i] == '\n' {
				b[i] = 'n' // the other program has lines' ends of its own
			}
		}
		var lines bytes.Buffer
		w := quotedprintable.NewWriter(&lines)
		w.Write(b)
		w.Close()
		if got, code := Decode(lines.Bytes()); code != api.OK || !bytes.Equal(got, b) {
			t.Errorf("%q: %q, %v, want %q", lines.Bytes(), got, code, b)
		}
		if got, err := io.ReadAll(quotedprintable.NewReader(bytes.NewReader(Encode(b)))); err != nil || !bytes.Equal(got, b) {
			t.Errorf("the other one reads %q, %v, want %q", got, err, b)
		}
	}
}

func TestMany(t *testing.T) { // P1: many blanks are gone through once
	blanks := bytes.Repeat([]byte(" \t"), api.MaxBody/2)
	behind := append(bytes.Clone(blanks), 'x')
	if got, code := Decode(behind); code != api.OK || !bytes.Equal(got, behind) {
		t.Errorf("%d, %v", len(got), code)
	}
	if got, code := Decode(blanks); code != api.OK || len(got) != 0 {
		t.Errorf("%d, %v", len(got), code)
	}
	if got, code := Decode(slices.Concat([]byte("a="), blanks, []byte("\nb"))); code != api.OK || string(got) != "ab" {
		t.Errorf("%d, %v", len(got), code)
	}
	if got, code := Decode(slices.Concat([]byte("="), behind)); code != api.ErrForm || got != nil {
		t.Errorf("%d, %v", len(got), code)
	}
	for _, b := range [][]byte{blanks, behind, bytes.Repeat([]byte{255}, api.MaxBody), bytes.Repeat([]byte("\r\n"), api.MaxBody/2), row(api.MaxBody, 4)} {
		made := Encode(b)
		if wrong := lawful(made); wrong != "" {
			t.Error(wrong)
		}
		if back, code := Decode(made); code != api.OK || !bytes.Equal(back, b) {
			t.Errorf("%d bytes: back they are %d, %v", len(b), len(back), code)
		}
	}
}

func TestNothing(t *testing.T) { // P1, P7.1
	if len(Encode(nil)) != 0 || len(Encode([]byte{})) != 0 {
		t.Error("nothing is encoded to something")
	}
	if b, code := Decode(nil); code != api.OK || len(b) != 0 {
		t.Errorf("%x, %v", b, code)
	}
}

func TestMemory(t *testing.T) { // P2, P7.2: arguments stay as they are, and answers are new memory
	for _, text := range []string{strings.Repeat("plain text ", 30) + ".", strings.Repeat("= \r\n \n", 40)} {
		room := []byte("behind" + text + "ahead")
		b := room[6 : 6+len(text)]
		made := Encode(b)
		spare := append(bytes.Clone(made), "left"...)
		back, code := Decode(spare[:len(made)])
		if code != api.OK || string(back) != text {
			t.Fatalf("%q, %v", back, code)
		}
		if string(room) != "behind"+text+"ahead" || string(spare) != string(made)+"left" {
			t.Error("an argument was changed")
		}
		kept := [][]byte{bytes.Clone(made), bytes.Clone(back)}
		clear(room)
		clear(spare)
		if !bytes.Equal(made, kept[0]) || !bytes.Equal(back, kept[1]) {
			t.Error("an answer changes with an argument")
		}
		again, _ := Decode(made)
		for i, answer := range [][]byte{Encode([]byte(text)), again} {
			if !bytes.Equal(answer, kept[i]) {
				t.Errorf("the same call %d gives another answer", i)
			}
			clear(answer[:cap(answer)])
		}
		if !bytes.Equal(made, kept[0]) || !bytes.Equal(back, kept[1]) {
			t.Error("two answers share memory")
		}
	}
	// Where all is itself, the answer is still not what was handed in.
	b := []byte("abc")
	back, _ := Decode(b)
	made := Encode(b)
	clear(b)
	if string(back) != "abc" || string(made) != "abc" {
		t.Errorf("%q, %q", back, made)
	}
}
