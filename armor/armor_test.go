package armor

import (
	"bytes"
	"encoding/base64"
	"slices"
	"strings"
	"testing"

	"despatch/api"
)

// row gives n bytes that seem to be of no order.
func row(n, first int) []byte {
	b := make([]byte, n)
	x := uint32(first)*2654435761 + 12345
	for i := range b {
		x = x*1664525 + 1013904223
		b[i] = byte(x >> 24)
	}
	return b
}

// otherDecode is Decode by the library: it must be right, and no line's end, which the library passes over, may stand in it.
func otherDecode(s string) ([]byte, bool) {
	b, err := base64.StdEncoding.Strict().DecodeString(s)
	return b, err == nil && !strings.ContainsAny(s, "\r\n")
}

// check holds what Decode or Read answered against the library.
func check(t *testing.T, what, s string, got []byte, code api.Errno) {
	t.Helper()
	want, ok := otherDecode(s)
	if !ok && (code != api.ErrForm || got != nil) {
		t.Errorf("%s of %q: %x, %v, want ErrForm", what, s, got, code)
	}
	if ok && (code != api.OK || !bytes.Equal(got, want)) {
		t.Errorf("%s of %q: %x, %v, want %x", what, s, got, code, want)
	}
}

func TestEncodeKnown(t *testing.T) { // P6.1: the numbers of RFC 4648, and the chapter's example
	for b, want := range map[string]string{
		"": "", "f": "Zg==", "fo": "Zm8=", "foo": "Zm9v", "foob": "Zm9vYg==", "fooba": "Zm9vYmE=", "foobar": "Zm9vYmFy",
		"\x00": "AA==", "\x00\x00": "AAA=", "\x00\x00\x00": "AAAA",
		"\xff": "/w==", "\xff\xff": "//8=", "\xff\xff\xff": "////", "\xfb\xef\xbe": "++++",
	} {
		if got := Encode([]byte(b)); got != want {
			t.Errorf("%q: %s, want %s", b, got, want)
		}
		if got, code := Decode(want); code != api.OK || string(got) != b {
			t.Errorf("%s: %q, %v, want %q", want, got, code, b)
		}
	}
}

func TestSigns(t *testing.T) { // P6.1: each sign at each place
	const all = "ABCDEFGHIJKLMNOPQRSTUVWXYZabcdefghijklmnopqrstuvwxyz0123456789+/"
	for i := range 64 {
		for place := range 4 {
			n := i << (6 * (3 - place))
			b := []byte{byte(n >> 16), byte(n >> 8), byte(n)}
			want := []byte("AAAA")
			want[place] = all[i]
			if got := Encode(b); got != string(want) {
				t.Errorf("%x: %s, want %s", b, got, want)
			}
			if got, code := Decode(string(want)); code != api.OK || !bytes.Equal(got, b) {
				t.Errorf("%s: %x, %v, want %x", want, got, code, b)
			}
		}
	}
}

func TestEncode(t *testing.T) { // P6.1
	try := func(b []byte) {
		t.Helper()
		s := Encode(b)
		if want := base64.StdEncoding.EncodeToString(b); s != want {
			t.Fatalf("%x: %s, want %s", b, s, want)
		}
		if got, code := Decode(s); code != api.OK || !bytes.Equal(got, b) {
			t.Fatalf("%s: %x, %v, want %x", s, got, code, b)
		}
	}
	for i := range 1 << 16 {
		try([]byte{byte(i)})
		try([]byte{byte(i), byte(i >> 8)})
		try([]byte{byte(i >> 8), byte(i), byte(i * 251)})
	}
	for n := range 300 {
		try(row(n, n))
	}
	for _, n := range []int{api.MaxCipher - 1, api.MaxCipher, api.MaxCipher + 1} {
		try(row(n, n))
	}
}

func TestDecodeShort(t *testing.T) { // P6.1: all texts of up to 5 of some signs, right ones and wrong ones
	const some = "AQgZ9+/=-\n "
	texts := []string{""}
	for length := 0; length <= 5; length++ {
		var longer []string
		for _, s := range texts {
			got, code := Decode(s)
			check(t, "Decode", s, got, code)
			for _, c := range some {
				longer = append(longer, s+string(c))
			}
		}
		texts = longer
	}
}

func TestDecodeByte(t *testing.T) { // P6.1: any byte at any place of what was right
	for _, n := range []int{1, 2, 3, 4, 5, 6} {
		right := Encode(row(n, 5))
		for place := range right {
			for c := range 256 {
				s := right[:place] + string([]byte{byte(c)}) + right[place+1:]
				got, code := Decode(s)
				check(t, "Decode", s, got, code)
				s = right[:place] + string([]byte{byte(c)}) + right[place:]
				got, code = Decode(s)
				check(t, "Decode", s, got, code)
			}
			got, code := Decode(right[:place])
			check(t, "Decode", right[:place], got, code)
		}
	}
}

func TestDecodeWrong(t *testing.T) { // P6.1: what Encode never gives, and the chapter's example
	for _, s := range []string{
		"Zm9=", "Zh==", "Zg=", "Zg", "Z", "Z=", "Z==", "Z===", "=", "==", "===", "====", "Zg===", "Zg==\n", "\nZg==",
		"Zg==Zg==", "Zm8=Zm8=", "Zg==Zm9v", "AAAA====", "Zm9v=", "Zm9v==", "Z=8=", "=m8=", "Zm=v", "Zm9vA", "Zm9vAA", "Zm9vAAA",
		"Zm 8=", " Zm8=", "Zm8= ", "Zm8-", "Zm8_", "Zm8\x00", "Zm8\xff", "Zm8\u00e9", "Zm\r\n8=",
	} {
		if got, code := Decode(s); code != api.ErrForm || got != nil {
			t.Errorf("%q: %x, %v", s, got, code)
		}
	}
	// The last group of many decides as much as the first one.
	many := Encode(row(3000, 1))
	for _, s := range []string{many + "Zm9=", many + "Z", "Zg==" + many, "-" + many[1:], many[:len(many)-1] + "-", many[:2000] + "Zm8=" + many[2000:]} {
		if got, code := Decode(s); code != api.ErrForm || got != nil {
			t.Errorf("of many: %x, %v", got, code)
		}
	}
}

// otherLines is Lines by the library's signs, cut with slices.
func otherLines(b []byte) string {
	var lines strings.Builder
	for line := range slices.Chunk([]byte(base64.StdEncoding.EncodeToString(b)), 76) {
		lines.Write(line)
		lines.WriteString("\r\n")
	}
	return lines.String()
}

func TestLines(t *testing.T) { // P6.1
	if Width != 76 {
		t.Error(Width)
	}
	for n := range 400 {
		b := row(n, n)
		got := Lines(b)
		if string(got) != otherLines(b) {
			t.Errorf("%d bytes: %q", n, got)
		}
		if again, code := Read(got); code != api.OK || !bytes.Equal(again, b) {
			t.Errorf("%d bytes: Read gives %x, %v", n, again, code)
		}
	}
	for b, want := range map[string]string{"": "", "f": "Zg==\r\n", "foo": "Zm9v\r\n"} {
		if got := Lines([]byte(b)); string(got) != want {
			t.Errorf("%q: %q, want %q", b, got, want)
		}
	}
	a := strings.Repeat("A", 76) + "\r\n"
	for n, want := range map[int]string{56: a[:75] + "=\r\n", 57: a, 58: a + "AA==\r\n", 113: a + a[:75] + "=\r\n", 114: a + a, 115: a + a + "AA==\r\n"} {
		if got := Lines(make([]byte, n)); string(got) != want {
			t.Errorf("%d noughts: %q, want %q", n, got, want)
		}
	}
	large := row(api.MaxCipher, 3)
	if string(Lines(large)) != otherLines(large) {
		t.Error("lines of many bytes")
	}
}

func TestRead(t *testing.T) { // P6.1: blanks may stand anywhere, other bytes may not
	for _, n := range []int{0, 1, 2, 3, 4, 5, 6, 57, 58} {
		b := row(n, 9)
		right := Encode(b)
		for c := range 256 {
			isBlank := c == 32 || c == 9 || c == 13 || c == 10
			for place := range len(right) + 1 {
				s := right[:place] + string([]byte{byte(c)}) + right[place:]
				got, code := Read([]byte(s))
				if isBlank && (code != api.OK || !bytes.Equal(got, b)) {
					t.Errorf("%q: %x, %v", s, got, code)
				} else if !isBlank && (code != api.ErrForm || got != nil) {
					t.Errorf("%q: %x, %v, want ErrForm", s, got, code)
				}
			}
		}
		spread := " \t\r\n\n\r" + strings.Join(strings.Split(right, ""), "\n \t\r ") + "\r\n\t "
		if got, code := Read([]byte(spread)); code != api.OK || !bytes.Equal(got, b) {
			t.Errorf("%q: %x, %v", spread, got, code)
		}
	}
	for s, want := range map[string]string{"": "", " ": "", "\r\n\t \n": "", " Z\tm\r\n8 =\n": "fo", "Z g = =": "f", "Zm9\nv": "foo"} {
		if got, code := Read([]byte(s)); code != api.OK || string(got) != want {
			t.Errorf("%q: %q, %v, want %q", s, got, code, want)
		}
	}
	for _, s := range []string{"Zg= ", "Z g", "Zm 9=", "Zg==\r\nZg==", "=\n=\n=\n=", "Zg==\x0b", "Zg==\x00", "\x0cZg==", "\u00a0Zg==", "Zg==-- "} {
		if got, code := Read([]byte(s)); code != api.ErrForm || got != nil {
			t.Errorf("%q: %x, %v", s, got, code)
		}
	}
}

func TestReadShort(t *testing.T) { // P6.1: Read is Decode without the blanks
	const some = "Ag= \r\n\tx-"
	without := strings.NewReplacer(" ", "", "\t", "", "\r", "", "\n", "")
	texts := []string{""}
	for length := 0; length <= 5; length++ {
		var longer []string
		for _, s := range texts {
			got, code := Read([]byte(s))
			check(t, "Read", without.Replace(s), got, code)
			for _, c := range some {
				longer = append(longer, s+string(c))
			}
		}
		texts = longer
	}
}

func TestNothing(t *testing.T) { // P1, P6.1
	if Encode(nil) != "" || len(Lines(nil)) != 0 || len(Lines([]byte{})) != 0 {
		t.Error("nothing is encoded to something")
	}
	if b, code := Decode(""); code != api.OK || len(b) != 0 {
		t.Errorf("%x, %v", b, code)
	}
	if b, code := Read(nil); code != api.OK || len(b) != 0 {
		t.Errorf("%x, %v", b, code)
	}
}

func TestGroups(t *testing.T) { // who goes through groups may leave them, and go through them again
	three := groups([]byte("abcdefgh"), 3)
	for range 2 {
		var seen []string
		for group := range three {
			seen = append(seen, string(group))
		}
		if !slices.Equal(seen, []string{"abc", "def", "gh"}) {
			t.Errorf("%q", seen)
		}
		for group := range three {
			if string(group) != "abc" {
				t.Errorf("%q", group)
			}
			break
		}
	}
}

func TestMemory(t *testing.T) { // P2, and rule 6: arguments stay as they are, and answers are new memory
	room := row(300, 1)
	b := room[10:150]
	lines := Lines(b)
	spare := append(bytes.Clone(lines), "left"...)
	read, code := Read(spare[:len(lines)])
	if code != api.OK || !bytes.Equal(read, b) {
		t.Fatalf("%x, %v", read, code)
	}
	decoded, code := Decode(Encode(b))
	if code != api.OK || !bytes.Equal(decoded, b) {
		t.Fatalf("%x, %v", decoded, code)
	}
	if !bytes.Equal(room, row(300, 1)) || string(spare) != string(lines)+"left" {
		t.Error("an argument was changed")
	}
	kept := [][]byte{bytes.Clone(lines), bytes.Clone(read), bytes.Clone(decoded)}
	clear(room)
	clear(spare)
	for i, answer := range [][]byte{lines, read, decoded} {
		if !bytes.Equal(answer, kept[i]) {
			t.Errorf("answer %d changes with an argument", i)
		}
	}
	b = row(300, 1)[10:150]
	again, _ := Read(lines)
	others := [][]byte{Lines(b), again}
	for i, answer := range others {
		if !bytes.Equal(answer, kept[i]) {
			t.Errorf("the same call %d gives another answer", i)
		}
		clear(answer[:cap(answer)])
	}
	if !bytes.Equal(lines, kept[0]) || !bytes.Equal(read, kept[1]) {
		t.Error("two answers share memory")
	}
}
