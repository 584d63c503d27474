package tale

import (
	"fmt"
	"math"
	"reflect"
	"regexp"
	"strconv"
	"strings"
	"testing"

	"despatch/api"
)

// dice gives numbers that seem to be of no order, each from 0 to one less than asked.
func dice(first int) func(n int) int {
	x := uint32(first)*2654435761 + 12345
	return func(n int) int {
		x = x*1664525 + 1013904223
		return int(x>>8) % n
	}
}

// noughts is a key of noughts, as it is told.
const noughts = "0000000000000000000000000000000000000000000000000000000000000000"

// told is an event, with nothing else in it, and its line.
type told struct {
	line string
	e    api.Event
}

// allBytes gives each byte once.
func allBytes() []byte {
	b := make([]byte, 256)
	for i := range b {
		b[i] = byte(i)
	}
	return b
}

// tellings are events of each kind, and their lines.
func tellings() []told {
	counted := api.Key(allBytes()[:api.KeyBytes])
	lasts := api.Key(allBytes()[256-api.KeyBytes:])
	return []told{
		{"send 0 0 - - 0 " + noughts, api.Event{Kind: api.EvSend}},
		{"send 0 1 74 00ff 0 01" + noughts[2:], api.Event{Kind: api.EvSend, To: 1, Thread: "t", Body: []byte{0, 255}, Fresh: api.Key{1}}},
		{"send 12 -3 2030 2d 1 000102030405060708090a0b0c0d0e0f101112131415161718191a1b1c1d1e1f", api.Event{Kind: api.EvSend, Who: 12, To: -3, Thread: " 0", Body: []byte("-"), Secure: true, Fresh: counted}},
		{"send -9223372036854775808 9223372036854775807 0a - 1 e0e1e2e3e4e5e6e7e8e9eaebecedeeeff0f1f2f3f4f5f6f7f8f9fafbfcfdfeff", api.Event{Kind: api.EvSend, Who: math.MinInt, To: math.MaxInt, Thread: "\n", Secure: true, Fresh: lasts}},
		{"post 0", api.Event{Kind: api.EvPost}},
		{"post -3", api.Event{Kind: api.EvPost, Who: -3}},
		{"post 10", api.Event{Kind: api.EvPost, Who: 10}},
		{"post 9223372036854775807", api.Event{Kind: api.EvPost, Who: math.MaxInt}},
		{"post -9223372036854775808", api.Event{Kind: api.EvPost, Who: math.MinInt}},
		{"carry 2 1", api.Event{Kind: api.EvCarry, N: 2, Stays: true}},
		{"carry 0 0", api.Event{Kind: api.EvCarry}},
		{"carry -1 0", api.Event{Kind: api.EvCarry, N: -1}},
		{"drop 0", api.Event{Kind: api.EvDrop}},
		{"drop 4294967296", api.Event{Kind: api.EvDrop, N: 1 << 32}},
		{"rewrite 0 0 0 0 -", api.Event{Kind: api.EvRewrite}},
		{"rewrite 1 3 -2 9 6162", api.Event{Kind: api.EvRewrite, N: 1, Rewrite: api.Rewrite{Kind: api.RwFold, N: -2, M: 9, Text: "ab"}}},
		{"rewrite -1 100 2 -9223372036854775808 c3a90d0aff", api.Event{Kind: api.EvRewrite, N: -1, Rewrite: api.Rewrite{Kind: 100, N: 2, M: math.MinInt, Text: "é\r\n\xff"}}},
		{"corrupt 5 6 255", api.Event{Kind: api.EvCorrupt, N: 5, M: 6, Turn: 255}},
		{"corrupt 0 -1 0", api.Event{Kind: api.EvCorrupt, M: -1}},
		{"corrupt -7 0 10", api.Event{Kind: api.EvCorrupt, N: -7, Turn: 10}},
		{"fetch 0 0 " + noughts, api.Event{Kind: api.EvFetch}},
		{"fetch 3 -1 " + noughts[2:] + "ff", api.Event{Kind: api.EvFetch, Who: 3, N: -1, Fresh: api.Key{31: 255}}},
		{"crash 0 -", api.Event{Kind: api.EvCrash}},
		{"crash 2 000102", api.Event{Kind: api.EvCrash, Who: 2, Body: []byte{0, 1, 2}}},
		{"crash 1 " + fmt.Sprintf("%x", allBytes()), api.Event{Kind: api.EvCrash, Who: 1, Body: allBytes()}},
		{"reset 1 74", api.Event{Kind: api.EvReset, Who: 1, Thread: "t"}},
		{"reset -1 -", api.Event{Kind: api.EvReset, Who: -1}},
	}
}

func TestLine(t *testing.T) { // P25.1: the words of each kind; what is else in an event isn't told
	for _, c := range tellings() {
		if got := Line(c.e); got != c.line {
			t.Errorf("%v: %q, not %q", c.e, got, c.line)
		}
		more := fullOf(c.e)
		if got := Line(more); got != c.line {
			t.Errorf("%v: %q, not %q", more, got, c.line)
		}
	}
}

// fullOf gives an event with something in each field that its line doesn't tell.
func fullOf(e api.Event) api.Event {
	full := api.Event{Kind: e.Kind, Who: 91, To: 92, N: 93, M: 94, Thread: "full", Body: []byte("full"), Secure: true, Stays: true, Turn: 95, Fresh: api.Key{96}, Rewrite: api.Rewrite{Kind: 1, N: 97, M: 98, Text: "full"}}
	whole := reflect.ValueOf(&full).Elem()
	for _, name := range toldFields(e.Kind) {
		whole.FieldByName(name).Set(reflect.ValueOf(e).FieldByName(name))
	}
	return full
}

// toldFields gives the names of the fields that a kind's line tells.
func toldFields(kind int) []string {
	switch kind {
	case api.EvSend:
		return []string{"Who", "To", "Thread", "Body", "Secure", "Fresh"}
	case api.EvPost:
		return []string{"Who"}
	case api.EvCarry:
		return []string{"N", "Stays"}
	case api.EvDrop:
		return []string{"N"}
	case api.EvRewrite:
		return []string{"N", "Rewrite"}
	case api.EvCorrupt:
		return []string{"N", "M", "Turn"}
	case api.EvFetch:
		return []string{"Who", "N", "Fresh"}
	case api.EvCrash:
		return []string{"Who", "Body"}
	}
	return []string{"Who", "Thread"}
}

func TestLineOther(t *testing.T) { // P25.1: an event of another kind is ?, whatever is in it
	for _, kind := range []int{0, -1, 10, 11, 255, 256, 1 << 32, 1<<32 + 1, math.MinInt, math.MaxInt} {
		for _, e := range []api.Event{{}, {Who: 1, To: 2, N: 3, Thread: "t", Body: []byte("b")}} {
			e.Kind = kind
			if got := Line(e); got != "?" {
				t.Errorf("%v: %q", e, got)
			}
		}
	}
}

func TestRead(t *testing.T) { // P25.1: the event of a line, with nothing else in it
	for _, c := range tellings() {
		if e, code := Read(c.line); code != api.OK || !reflect.DeepEqual(e, c.e) {
			t.Errorf("%q: %v, %v", c.line, e, code)
		}
	}
}

func TestReadTurns(t *testing.T) { // P25.1: a turn is a number of 0 to 255, a sign is 0 or 1
	for n := -300; n <= 600; n++ {
		e, code := Read("corrupt 1 2 " + strconv.Itoa(n))
		if want := n >= 0 && n <= 255; (code == api.OK) != want || want && int(e.Turn) != n {
			t.Errorf("corrupt by %d: %v, %v", n, e, code)
		}
		if e, code := Read("carry 1 " + strconv.Itoa(n)); (code == api.OK) != (n == 0 || n == 1) || e.Stays != (n == 1) {
			t.Errorf("carry with %d: %v, %v", n, e, code)
		}
	}
}

// checkWrong checks that a line is none.
func checkWrong(t *testing.T, line string) {
	t.Helper()
	if e, code := Read(line); code != api.ErrForm || !reflect.DeepEqual(e, api.Event{}) {
		t.Errorf("%q: %v, %v", line, e, code)
	}
}

func TestReadWrong(t *testing.T) { // P25.1: what is no line of an event of a kind that there is
	for _, line := range []string{
		"", " ", "?", "? ", "?0", "0", "-", "1 0", "x", "x 0", "Post 0", "POST 0", "pos 0", "postt 0", " post 0", "post\t0", "post\n0", "post  0", "post 0 ", "post 0\n", "post 0\r\n", "post 0\x00", "post 0 0",
		"send", "post", "post ", "carry", "carry 2", "carry 2 ", "drop", "rewrite 1 3 -2 9", "rewrite 1 3 -2 9 ", "rewrite 1 3 -2 - 6162", "corrupt 1 2", "fetch 0 1", "fetch 0 1 ", "crash 0", "reset 1",
		"post -", "post 01", "post 00", "post -0", "post -01", "post +1", "post +0", "post --1", "post 1.0", "post 1e1", "post 0x1", "post 1_0", "post ١", "post １", "post 1a", "post a1", "post 1-",
		"post 9223372036854775808", "post -9223372036854775809", "post 18446744073709551616", "post 99999999999999999999999999", "post -99999999999999999999999999",
		"carry 2 2", "carry 2 -1", "carry 2 01", "carry 2 -", "carry 2 yes", "carry 2 true", "carry 2 256", "carry 2 257", "carry 2 10",
		"corrupt 1 2 256", "corrupt 1 2 257", "corrupt 1 2 -1", "corrupt 1 2 -255", "corrupt 1 2 00", "corrupt 1 2 ff", "corrupt 1 2 -", "corrupt 1 2 4294967296",
		"crash 0 a", "crash 0 AB", "crash 0 Ab", "crash 0 aB", "crash 0 --", "crash 0 -a", "crash 0 -aa", "crash 0 aa-", "crash 0 0", "crash 0 000", "crash 0 0g", "crash 0 g0", "crash 0 0x00", "crash 0 00 00", "crash 0 é", "crash 0 \xff\xff", "crash 0 zz", "crash 0 //", "crash 0 ::", "crash 0 ``",
		"reset 1 ", "reset 1 t", "reset 1  ", "reset 1 74 ", "reset  74", "reset 74", "reset - 74", "drop 0 ",
		"fetch 0 1 -", "fetch 0 1 00", "fetch 0 1 " + noughts[1:], "fetch 0 1 " + noughts[2:], "fetch 0 1 " + noughts + "0", "fetch 0 1 " + noughts + "00", "fetch 0 1 " + noughts + " ", "fetch 0 1 " + noughts + " 0", "fetch 0 1 -" + noughts[1:], "fetch 0 1 " + noughts[1:] + "A", "fetch 0 1 " + noughts[1:] + "g",
		"send 0 1 74 00ff 2 " + noughts, "send 0 1 t 00ff 0 " + noughts, "send 0 1 74  0 " + noughts, "send 0 1 00ff 0 " + noughts, "send 0 1 74 00ff " + noughts, "send 0 1 74 00ff 0 - " + noughts, "send 0 1 74 00ff 0",
		"crash 0 " + strings.Repeat("0", 100001), strings.Repeat("post ", 10000), strings.Repeat(" ", 10000), "post " + strings.Repeat("0", 100000), "post " + strings.Repeat("1", 100000), "post 0" + strings.Repeat(" ", 10000),
	} {
		checkWrong(t, line)
	}
}

// wordForms are what the words of the lines must be by the chapter.
const (
	numberForm = `(0|-?[1-9][0-9]*)`
	bytesForm  = `(-|([0-9a-f][0-9a-f])+)`
	keyForm    = `([0-9a-f]{64})`
	signForm   = `([01])`
)

// slowRight gives what tells whether a text is an event's line, by the chapter.
func slowRight() func(s string) bool {
	lines := regexp.MustCompile(`^(` + strings.NewReplacer(" ", `\x20`, "#", numberForm, "B", bytesForm, "K", keyForm, "Y", signForm).Replace(
		"send # # B B Y K|post #|carry # Y|drop #|rewrite # # # # B|corrupt # # #|fetch # # K|crash # B|reset # B") + `)\z`)
	number := regexp.MustCompile(`^-?[0-9]+\z`)
	return func(s string) bool {
		words := strings.Split(s, " ")
		for i, word := range words {
			isNumber := number.MatchString(word)
			isBytes := words[0] == "send" && (i == 3 || i == 4 || i == 6) || (words[0] == "crash" || words[0] == "reset") && i == 2 || words[0] == "fetch" && i == 3 || words[0] == "rewrite" && i == 5
			if _, err := strconv.ParseInt(word, 10, 64); isNumber && !isBytes && err != nil {
				return false
			}
			if n, _ := strconv.Atoi(word); words[0] == "corrupt" && i == 3 && (n < 0 || n > 255) {
				return false
			}
		}
		return lines.MatchString(s)
	}
}

// checkRead checks that a text is read as a line only if it is one, and then as the event whose line it is.
func checkRead(t *testing.T, s string, right bool) {
	t.Helper()
	e, code := Read(s)
	if right && (code != api.OK || Line(e) != s || e.Kind < api.EvSend || e.Kind > api.EvReset) || !right && (code != api.ErrForm || !reflect.DeepEqual(e, api.Event{})) {
		t.Fatalf("%q is %t: %v, %v", s, right, e, code)
	}
}

func TestReadChanged(t *testing.T) { // P25.1: lines of which a byte, or a word, is another one, is gone, or is there twice
	right := slowRight()
	rights := 0
	check := func(s string) {
		t.Helper()
		is := right(s)
		if is {
			rights++
		}
		checkRead(t, s, is)
	}
	for _, c := range tellings() {
		if len(c.line) > 200 {
			continue
		}
		for at := range len(c.line) {
			check(c.line[:at])
			check(c.line[:at] + c.line[at+1:])
			for _, sign := range " 0159-+aefgAF?.\n\x00" {
				check(c.line[:at] + string(sign) + c.line[at+1:])
				check(c.line[:at] + string(sign) + c.line[at:])
			}
		}
		words := strings.Split(c.line, " ")
		for i := range words {
			for _, word := range []string{"", "-", "0", "1", "00", "74", "-1", "256", noughts, "post", "send", words[i] + " " + words[i]} {
				check(strings.Join(append(append(append([]string{}, words[:i]...), word), words[i+1:]...), " "))
			}
			check(strings.Join(append(append([]string{}, words[:i]...), words[i+1:]...), " "))
		}
	}
	if rights < 1000 {
		t.Error(rights)
	}
}

func TestReadWords(t *testing.T) { // P25.1: rows of words of no order
	right := slowRight()
	roll := dice(2)
	rights := 0
	for range 100000 {
		names := []string{"send", "post", "carry", "drop", "rewrite", "corrupt", "fetch", "crash", "reset", "?"}
		words := []string{names[roll(len(names))]}
		for range roll(8) {
			words = append(words, []string{"0", "1", "-", "-1", "77", "300", "00", "7a", "", noughts}[roll(10)])
		}
		s := strings.Join(words, " ")
		is := right(s)
		if is {
			rights++
		}
		checkRead(t, s, is)
	}
	if rights < 1500 {
		t.Error(rights)
	}
}

// someNumber gives a number of any size.
func someNumber(roll func(int) int) int {
	switch roll(4) {
	case 0:
		return []int{math.MinInt, math.MaxInt, -1, 1 << 32, 0}[roll(5)]
	case 1:
		return -roll(1 << 20)
	}
	return roll(300)
}

// someEvent gives an event with something in each field.
func someEvent(roll func(int) int) api.Event {
	e := api.Event{
		Kind: 1 + roll(9), Who: someNumber(roll), To: someNumber(roll), N: someNumber(roll), M: someNumber(roll),
		Thread: string(allBytes()[roll(256):][:1]) + strings.Repeat("é ", roll(4)), Secure: roll(2) == 0, Stays: roll(2) == 0, Turn: byte(roll(256)),
		Rewrite: api.Rewrite{Kind: someNumber(roll), N: someNumber(roll), M: someNumber(roll), Text: strings.Repeat("x", roll(3))},
	}
	for range roll(40) {
		e.Body = append(e.Body, byte(roll(256)))
	}
	for i := range e.Fresh {
		e.Fresh[i] = byte(roll(256))
	}
	return e
}

// slowBytes gives bytes as they are told.
func slowBytes(b string) string {
	if b == "" {
		return "-"
	}
	return fmt.Sprintf("%x", b)
}

// slowLine is Line by the chapter's words, of a kind that there is.
func slowLine(e api.Event) string {
	sign := map[bool]int{true: 1}
	thread, body, x := slowBytes(e.Thread), slowBytes(string(e.Body)), e.Rewrite
	switch e.Kind {
	case api.EvSend:
		return fmt.Sprintf("send %d %d %s %s %d %x", e.Who, e.To, thread, body, sign[e.Secure], e.Fresh)
	case api.EvPost:
		return fmt.Sprintf("post %d", e.Who)
	case api.EvCarry:
		return fmt.Sprintf("carry %d %d", e.N, sign[e.Stays])
	case api.EvDrop:
		return fmt.Sprintf("drop %d", e.N)
	case api.EvRewrite:
		return fmt.Sprintf("rewrite %d %d %d %d %s", e.N, x.Kind, x.N, x.M, slowBytes(x.Text))
	case api.EvCorrupt:
		return fmt.Sprintf("corrupt %d %d %d", e.N, e.M, e.Turn)
	case api.EvFetch:
		return fmt.Sprintf("fetch %d %d %x", e.Who, e.N, e.Fresh)
	case api.EvCrash:
		return fmt.Sprintf("crash %d %s", e.Who, body)
	}
	return fmt.Sprintf("reset %d %s", e.Who, thread)
}

func TestSlow(t *testing.T) { // P25.1: events of no order, held against the chapter's words; what is handed in stays as it was
	roll := dice(3)
	for range 20000 {
		e := someEvent(roll)
		ahead := fmt.Sprint(e)
		line := Line(e)
		if want := slowLine(e); line != want {
			t.Fatalf("%q, not %q", line, want)
		}
		if fmt.Sprint(e) != ahead {
			t.Fatalf("%s was changed to %v", ahead, e)
		}
		read, code := Read(line)
		if code != api.OK || Line(read) != line {
			t.Fatalf("%q: %v, %v", line, read, code)
		}
		// Without what its line tells it is none: nothing else is in it.
		rest := reflect.ValueOf(&read).Elem()
		for _, name := range append(toldFields(e.Kind), "Kind") {
			rest.FieldByName(name).SetZero()
		}
		if !reflect.DeepEqual(read, api.Event{}) {
			t.Fatalf("%q: %v beside", line, read)
		}
	}
}

func TestMemory(t *testing.T) { // rule 4: events that were read share no memory
	for _, line := range []string{"crash 0 0102", "send 0 1 74 0102 0 " + noughts} {
		one, _ := Read(line)
		other, _ := Read(line)
		clear(one.Body[:cap(one.Body)])
		if string(other.Body) != "\x01\x02" {
			t.Errorf("%q: %v", line, other.Body)
		}
		if third, _ := Read(line); string(third.Body) != "\x01\x02" {
			t.Errorf("%q: %v", line, third.Body)
		}
	}
}

func TestLong(t *testing.T) { // P25.1: long texts
	body := strings.Repeat("\x00\xffab", 250000)
	line := "crash 1 " + strings.Repeat("00ff6162", 250000)
	e, code := Read(line)
	if code != api.OK || string(e.Body) != body || Line(e) != line {
		t.Error(code)
	}
	checkWrong(t, line+"0")
	checkWrong(t, line[:len(line)-1]+"G")
}
