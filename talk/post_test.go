package talk

import (
	"bytes"
	"fmt"
	"slices"
	"strings"
	"testing"

	"despatch/api"
)

// dice gives numbers that seem to be of no order, each from 0 to one less than asked.
func dice(first int) func(n int) int {
	x := uint32(first)*2654435761 + 12345
	return func(n int) int {
		x = x*1664525 + 1013904223
		return int(x>>8) % n
	}
}

// fed gives a Post that was fed bytes in pieces of a size, and what it answered.
func fed(s string, size int) (*Post, string) {
	p := NewPost()
	answers := ""
	for piece := range slices.Chunk([]byte(s), size) {
		answers += string(p.Feed(piece))
	}
	return p, answers
}

// told gives mails as a text.
func told(mails []api.Posted) string {
	s := ""
	for _, m := range mails {
		s += fmt.Sprintf("%q %q %q\n", m.From, m.To, m.Bytes)
	}
	return s
}

// same tells whether mails are the same.
func same(one, two []api.Posted) bool {
	return slices.EqualFunc(one, two, func(a, b api.Posted) bool {
		return a.From == b.From && slices.Equal(a.To, b.To) && bytes.Equal(a.Bytes, b.Bytes)
	})
}

// check checks what came of a talk's bytes.
func check(t *testing.T, s string, p *Post, answers string) {
	t.Helper()
	want := slowPost(s)
	if answers != want.answers {
		t.Fatalf("%.600q: answers %.600q, not %.600q", s, answers, want.answers)
	}
	if !same(p.Mails(), want.mails) || p.Closed() != want.closed {
		t.Fatalf("%.600q: %.600s, %v, not %.600s, %v", s, told(p.Mails()), p.Closed(), told(want.mails), want.closed)
	}
}

// upTo are the beginnings of talks, up to each of what a talk may be, or have.
var upTo = []string{
	"",
	"HELO x\r\n",
	"HELO x\r\nMAIL FROM:<a@b>\r\n",
	"HELO x\r\nMAIL FROM:<a@b>\r\nRCPT TO:<c@d>\r\n",
	"HELO x\r\nMAIL FROM:<a@b>\r\n" + strings.Repeat("RCPT TO:<c@d>\r\n", 10),
	"HELO x\r\nMAIL FROM:<a@b>\r\nRCPT TO:<c@d>\r\nDATA\r\n",
	"HELO x\r\nQUIT\r\n",
}

func TestPostAnswers(t *testing.T) { // P21.1: what each command is answered, however far the talk has come; and the chapter's example
	for line, want := range map[string][5]string{
		"HELO x":          {"250 ok", "250 ok", "250 ok", "250 ok", "250 ok"},
		"HELO ":           {"250 ok", "250 ok", "250 ok", "250 ok", "250 ok"},
		"HELO":            {"501 form", "501 form", "501 form", "501 form", "501 form"},
		"HELOx":           {"501 form", "501 form", "501 form", "501 form", "501 form"},
		"HELO\tx":         {"501 form", "501 form", "501 form", "501 form", "501 form"},
		"MAIL FROM:<a@b>": {"503 order", "250 ok", "503 order", "503 order", "503 order"},
		"MAIL FROM:<a@B>": {"501 form", "501 form", "501 form", "501 form", "501 form"},
		"MAIL FROM:":      {"501 form", "501 form", "501 form", "501 form", "501 form"},
		"RCPT TO:<c@d>":   {"503 order", "503 order", "250 ok", "250 ok", "452 many"},
		"RCPT TO:<c>":     {"501 form", "501 form", "501 form", "501 form", "501 form"},
		"RCPT TO:":        {"501 form", "501 form", "501 form", "501 form", "501 form"},
		"DATA":            {"503 order", "503 order", "503 order", "354 go", "354 go"},
		"DATA ":           {"501 form", "501 form", "501 form", "501 form", "501 form"},
		"RSET":            {"250 ok", "250 ok", "250 ok", "250 ok", "250 ok"},
		"RSET ":           {"501 form", "501 form", "501 form", "501 form", "501 form"},
		"QUIT":            {"221 bye", "221 bye", "221 bye", "221 bye", "221 bye"},
		"QUIT x":          {"501 form", "501 form", "501 form", "501 form", "501 form"},
		"":                {"500 what", "500 what", "500 what", "500 what", "500 what"},
		".":               {"500 what", "500 what", "500 what", "500 what", "500 what"},
		"NOOP":            {"500 what", "500 what", "500 what", "500 what", "500 what"},
	} {
		for i, ahead := range upTo[:5] {
			p := NewPost()
			p.Feed([]byte(ahead))
			if got := string(p.Feed([]byte(line + "\r\n"))); got != want[i]+"\r\n" {
				t.Errorf("%q behind %q: %q", line, ahead, got)
			}
			if p.Closed() != (line == "QUIT") || len(p.Mails()) != 0 {
				t.Errorf("%q behind %q: closed %v, %d mails", line, ahead, p.Closed(), len(p.Mails()))
			}
			check(t, ahead+line+"\r\n", p, string(first(ahead))+want[i]+"\r\n")
		}
	}
}

// first gives what is answered to bytes that a talk begins with.
func first(s string) []byte { return NewPost().Feed([]byte(s)) }

func TestPostKnown(t *testing.T) { // P21.1: what becomes of the talk
	const begun = "HELO x\r\nMAIL FROM:<a@b>\r\nRCPT TO:<c@d>\r\n"
	for s, want := range map[string]string{
		// RSET and HELO let a mail be begun anew; RSET leaves what is cold so.
		"RSET\r\nMAIL FROM:<a@b>\r\n":                                    "250 ok|503 order|",
		"HELO x\r\nMAIL FROM:<a@b>\r\nRSET\r\nMAIL FROM:<e@f>\r\n":       "250 ok|250 ok|250 ok|250 ok|",
		begun + "RSET\r\nDATA\r\nRCPT TO:<c@d>\r\nMAIL FROM:<e@f>\r\n":   "250 ok|250 ok|250 ok|250 ok|503 order|503 order|250 ok|",
		begun + "HELO y\r\nDATA\r\nRCPT TO:<c@d>\r\nMAIL FROM:<e@f>\r\n": "250 ok|250 ok|250 ok|250 ok|503 order|503 order|250 ok|",
		// What is wrong changes nothing.
		begun + "HELO\r\nRSET x\r\nQUIT x\r\nDATA x\r\nMAIL FROM:<e@f>\r\nRCPT TO:e@f\r\nwhat\r\nDATA\r\n": "250 ok|250 ok|250 ok|501 form|501 form|501 form|501 form|503 order|501 form|500 what|354 go|",
		// Behind a mail the talk is warm.
		begun + "DATA\r\n.\r\nDATA\r\nRCPT TO:<c@d>\r\nMAIL FROM:<a@b>\r\n": "250 ok|250 ok|250 ok|354 go|250 ok|503 order|503 order|250 ok|",
		// Data are no commands, whatever they are.
		begun + "DATA\r\nQUIT\r\n..\r\nRSET\r\n" + strings.Repeat("x", 600) + "\r\n": "250 ok|250 ok|250 ok|354 go|",
		// Behind the end nothing is answered.
		"QUIT\r\nHELO x\r\nwhat\r\n": "221 bye|",
		"QUIT\r\n":                   "221 bye|",
		// What has no end waits.
		"HELO x":                  "",
		"HELO x\r":                "",
		"HELO x\n":                "",
		"HELO x\nQUIT\r\n":        "250 ok|",
		"QUIT\nRSET\r\n":          "501 form|",
		"\r\r\n\n\r\n":            "500 what|500 what|",
		"HELO x\r\n\r\nHELO \r\r": "250 ok|500 what|",
	} {
		got := strings.ReplaceAll(string(first(s)), "\r\n", "|")
		if got != want {
			t.Errorf("%q: %q, not %q", s, got, want)
		}
	}
}

func TestPostMails(t *testing.T) { // P21.1: the mails that were taken, in order
	p := NewPost()
	p.Feed([]byte("HELO x\r\nMAIL FROM:<a.A@b.c>\r\nRCPT TO:<c@d>\r\nRCPT TO:<e@f>\r\nRCPT TO:<c@d>\r\nDATA\r\n..x\r\n.y\r\n\r\nz\n.\r\n..\r\n"))
	if len(p.Mails()) != 0 {
		t.Error("a mail that isn't at its end was taken")
	}
	p.Feed([]byte(".\r\nmail from:<G@h>\r\nrcpt to:<I@j>\r\ndata\r\n.\r\nMAIL FROM:<k@l>\r\nRCPT TO:<m@n>\r\nRSET\r\nMAIL FROM:<o@p>\r\nRCPT TO:<q@r>\r\nDATA\r\nz\r\n.\r\nMAIL FROM:<s@t>\r\nQUIT\r\n"))
	want := []api.Posted{
		{From: "a.A@b.c", To: []string{"c@d", "e@f", "c@d"}, Bytes: []byte(".x\r\ny\r\n\r\nz\n.\r\n.\r\n")},
		{From: "G@h", To: []string{"I@j"}},
		{From: "o@p", To: []string{"q@r"}, Bytes: []byte("z\r\n")},
	}
	for range 2 {
		if got := p.Mails(); told(got) != told(want) || !p.Closed() {
			t.Errorf("%s", told(got))
		}
	}
	if p.Feed([]byte("HELO x\r\n")) != nil || p.Feed(nil) != nil || !p.Closed() || len(p.Mails()) != 3 {
		t.Error("the talk has ended")
	}
	if p := NewPost(); p.Closed() || len(p.Mails()) != 0 || len(p.Feed(nil)) != 0 || len(p.Feed([]byte{})) != 0 {
		t.Error("a new one")
	}
}

func TestPostTo(t *testing.T) { // P21.1: it is for ten at most
	s := "HELO x\r\nMAIL FROM:<a@b>\r\n"
	for n := range 13 {
		s += fmt.Sprintf("RCPT TO:<c%d@d>\r\n", n)
	}
	p, answers := fed(s+"DATA\r\n.\r\n", 1000)
	if want := strings.Repeat("250 ok\r\n", 12) + strings.Repeat("452 many\r\n", 3) + "354 go\r\n250 ok\r\n"; answers != want {
		t.Errorf("%q", answers)
	}
	if m := p.Mails(); len(m) != 1 || len(m[0].To) != 10 || m[0].To[9] != "c9@d" {
		t.Errorf("%v", m)
	}
}

func TestPostWords(t *testing.T) { // P21.1: words' letters are big and small, of A to Z alone; each byte behind, ahead, and amid
	words := []string{"HELO x", "MAIL FROM:<a@b>", "RCPT TO:<a@b>", "DATA", "RSET", "QUIT"}
	for _, ahead := range upTo[:4] {
		for _, word := range words {
			for k := range 1 << 9 {
				line := []byte(word)
				for i := range min(9, len(line)) {
					if k>>i&1 == 1 && line[i] >= 'A' && line[i] <= 'Z' {
						line[i] += 32
					}
				}
				s := ahead + string(line) + "\r\n"
				p, answers := fed(s, len(s))
				check(t, s, p, answers)
				if string(first(ahead+word+"\r\n")) != answers {
					t.Errorf("%q", line)
				}
			}
			for at := range len(word) + 1 {
				for c := range 256 {
					for _, line := range []string{word[:at] + string([]byte{byte(c)}) + word[at:], word[:at] + string([]byte{byte(c)}) + word[min(at+1, len(word)):]} {
						s := ahead + line + "\r\n"
						p, answers := fed(s, len(s))
						check(t, s, p, answers)
					}
				}
			}
		}
	}
	for _, line := range []string{"R\u017fET", "DAT\u0391", "HEL\u041e x", "\u00a0QUIT", "QUI\ufeff"} {
		if got := string(first(line + "\r\n")); got != "500 what\r\n" {
			t.Errorf("%q: %q", line, got)
		}
	}
}

func TestPostAddresses(t *testing.T) { // P21.1: addresses just as layer 10 tells them
	for s, want := range map[string]string{
		"<a@b>": "250 ok", "<a.b@c.d>": "250 ok", "<A.B@c>": "250 ok", "<!#$%&'*+-^_`{|}~@0>": "250 ok", "<--@-->": "250 ok",
		"": "501 form", "<>": "501 form", "a@b": "501 form", "<a@b": "501 form", "a@b>": "501 form", " <a@b>": "501 form", "<a@b> ": "501 form",
		"< a@b>": "501 form", "<a@b >": "501 form", "<a@B>": "501 form", "<a>": "501 form", "<@b>": "501 form", "<a@>": "501 form", "<a@b@c>": "501 form",
		"<a..b@c>": "501 form", "<.a@b>": "501 form", "<a@b.>": "501 form", "<a(x)@b>": "501 form", "<a@b(x)>": "501 form", "<(x)a@b>": "501 form",
		"<<a@b>>": "501 form", "<x<a@b>>": "501 form", "<a@b><a@b>": "501 form", "<a@b>,<a@b>": "501 form", "<\"a\"@b>": "501 form", "<a@b>x": "501 form",
		"x<a@b>": "501 form", "<a@\xff>": "501 form", "<a@\u00e9>": "501 form", "<a@b\x00>": "501 form", "<": "501 form", ">": "501 form", "><": "501 form",
		"<(((((((((((a@b>": "501 form", "<a@b>\r": "501 form", "<a@b>\n": "501 form",
	} {
		if got := string(first("HELO x\r\nMAIL FROM:" + s + "\r\n")); got != "250 ok\r\n"+want+"\r\n" {
			t.Errorf("from %q: %q", s, got)
		}
		if got := string(first("HELO x\r\nMAIL FROM:<a@b>\r\nRCPT TO:" + s + "\r\n")); got != "250 ok\r\n250 ok\r\n"+want+"\r\n" {
			t.Errorf("to %q: %q", s, got)
		}
	}
}

func TestPostLong(t *testing.T) { // P21.1: lines up to 512 bytes, and longer ones
	for _, ahead := range upTo[:4] {
		for _, size := range []int{510, 511, 512, 513, 514, 515, 516, 517, 1024, 1025, 1026, 1027, 1028, 1029, 1030, 5000} {
			x := func(n int) string { return strings.Repeat("x", size-n) }
			for _, line := range []string{x(0), "HELO " + x(5), "HELO" + x(4), "QUIT" + x(4), "RSET" + x(4), "DATA" + x(4), "MAIL FROM:<a@" + x(14) + ">", "RCPT TO:<a@" + x(12) + ">", "HELO " + x(6) + "\r", "HELO " + x(6) + "\n", x(2) + "\n\r", "QUIT\r" + x(6) + "\n"} {
				if len(line) != size {
					t.Fatalf("%d bytes", len(line))
				}
				s := ahead + line + "\r\nRSET\r\n"
				answers := string(first(s))
				if size > 512 && answers != string(first(ahead))+"500 what\r\n250 ok\r\n" {
					t.Errorf("%d bytes: %q", size, answers)
				}
				for _, piece := range []int{1, 2, 3, 511, 512, 513, 514, 515, 516, len(s)} {
					p, answers := fed(s, piece)
					check(t, s, p, answers)
				}
			}
		}
	}
	// The longest lines with addresses.
	for _, n := range []int{497, 498, 499} {
		s := "HELO x\r\nMAIL FROM:<" + strings.Repeat("a", n) + "@b>\r\n"
		want := "250 ok\r\n250 ok\r\n"
		if n > 498 {
			want = "250 ok\r\n500 what\r\n"
		}
		if got := string(first(s)); got != want {
			t.Errorf("%d: %q", n, got)
		}
	}
}

// lineRows gives rows of lines of a list, up to a number of them.
func lineRows(most int, list ...string) []string {
	all, last := []string{""}, []string{""}
	for range most {
		var longer []string
		for _, s := range last {
			for _, line := range list {
				longer = append(longer, s+line+"\r\n")
			}
		}
		all, last = append(all, longer...), longer
	}
	return all
}

func TestPostRows(t *testing.T) { // P21.1: all short rows of commands
	rows := lineRows(3, "HELO x", "HELO", "MAIL FROM:<a@b>", "MAIL FROM:a", "RCPT TO:<c@d>", "RCPT TO:<c>", "DATA", "DATA x", "RSET", "QUIT", ".", "..", "what")
	for _, ahead := range upTo {
		for _, row := range rows {
			s := ahead + row
			p, answers := fed(s, len(s)+1)
			check(t, s, p, answers)
		}
	}
}

// randomTalk gives a talk of no order, in which mails are taken again and again.
func randomTalk(roll func(n int) int) string {
	right := []string{"HELO x\r\n", "MAIL FROM:<a@b>\r\n", "RCPT TO:<c@d>\r\n", "DATA\r\n", "a\r\n", "..\r\n", ".\r\n"}
	other := []string{"RSET\r\n", "QUIT", "rcpt TO:<E@f>\r\n", "RCPT TO:<c@d>\r\n", "what\r\n", ".b", "\r", "\n", "\r\n", ".\r\n", "HELO ", strings.Repeat("x", 300), "DATA\r\n", "HELO\r\n", "\xff", "\x00"}
	s := ""
	for range 1 + roll(4) {
		for _, line := range right {
			for roll(5) == 0 {
				s += other[roll(len(other))]
			}
			if roll(20) > 0 {
				s += line
			}
		}
	}
	return s
}

func TestPostPieces(t *testing.T) { // P21.1: in whatever pieces the bytes come; and each line is answered at once
	taken := 0
	for n := range 3000 {
		roll := dice(n)
		s := randomTalk(roll)
		p, answers := fed(s, len(s)+1)
		check(t, s, p, answers)
		taken += len(p.Mails())
		for _, size := range []int{1, 2, 3, 7, 64} {
			p, answers = fed(s, size)
			check(t, s, p, answers)
		}
		p, answers = NewPost(), ""
		for at := 0; at < len(s); {
			to := min(len(s), at+roll(1+roll(40)))
			answers += string(p.Feed([]byte(s[at:to])))
			at = to
			check(t, s[:at], p, answers)
		}
	}
	if taken < 1500 {
		t.Errorf("%d mails", taken)
	}
}

func TestPostLarge(t *testing.T) { // P21.1: mails up to 2097152 bytes, however they stand on lines
	const begun = "HELO x\r\nMAIL FROM:<a@b>\r\nRCPT TO:<c@d>\r\nDATA\r\n"
	const small = "MAIL FROM:<a@b>\r\nRCPT TO:<c@d>\r\nDATA\r\nsmall\r\n.\r\nQUIT\r\n"
	for line, bytes := range map[string]int{"\r\n": 2, "..\r\n": 3, "x\r\n": 3, ".x\r\n": 3, "..x\r\n": 4, "\n\r\r\n": 4, strings.Repeat("x", 1022) + "\r\n": 1024} {
		count := api.MaxMail/bytes - 3
		most := api.MaxMail - count*bytes - 2 // bytes of the last line, but for its end
		for more := range 2 {
			s := begun + strings.Repeat(line, count) + strings.Repeat("y", most+more) + "\r\n.\r\n" + small
			large := "250 ok\r\n"
			if more > 0 {
				large = "552 large\r\n"
			}
			for _, piece := range []int{1021, len(s)} {
				p, answers := fed(s, piece)
				if want := "250 ok\r\n250 ok\r\n250 ok\r\n354 go\r\n" + large + "250 ok\r\n250 ok\r\n354 go\r\n250 ok\r\n221 bye\r\n"; answers != want {
					t.Fatalf("%.10q, %d more: %q", line, more, answers)
				}
				check(t, s, p, answers)
			}
		}
	}
}

func TestPostLongData(t *testing.T) { // P21.1: lines of data that are too long by themselves, and many that are too large together
	const begun = "HELO x\r\nMAIL FROM:<a@b>\r\nRCPT TO:<c@d>\r\nDATA\r\n"
	for _, size := range []int{mostData/2 + 1, mostData - 1, mostData, mostData + 1, mostData + 2, 3*mostData + 1} {
		for _, x := range []string{"x", ".\n.\r", "..\r\n"} {
			row := strings.Repeat(x, size/len(x)+1)[:size]
			s := begun + row + "\r\nb\r\n.\r\nRSET\r\nMAIL FROM:<a@b>\r\nRCPT TO:<c@d>\r\nDATA\r\nsmall\r\n.\r\n"
			p, answers := fed(s, 4099)
			check(t, s, p, answers)
			p, answers = fed(s, len(s))
			check(t, s, p, answers)
		}
	}
}

func TestPostKeeps(t *testing.T) { // P21.1: what can be of no use isn't kept, and no byte costs more behind many
	long := bytes.Repeat([]byte("x"), 1<<20)
	p := NewPost()
	for range 64 {
		p.Feed(long)
	}
	if cap(p.line) > 1<<12 {
		t.Errorf("a command's %d bytes", cap(p.line))
	}
	if got := string(p.Feed([]byte("\r\nHELO x\r\nMAIL FROM:<a@b>\r\nRCPT TO:<c@d>\r\nDATA\r\n"))); got != "500 what\r\n250 ok\r\n250 ok\r\n250 ok\r\n354 go\r\n" {
		t.Errorf("%q", got)
	}
	for range 64 {
		p.Feed(long)
	}
	p.Feed([]byte("\r\n"))
	for range 64 {
		p.Feed(append(long, "\r\n"...))
	}
	if cap(p.line)+cap(p.data) > 16*api.MaxMail {
		t.Errorf("%d bytes of data", cap(p.line)+cap(p.data))
	}
	if got := string(p.Feed([]byte(".\r\n"))); got != "552 large\r\n" || len(p.line)+len(p.data) != 0 {
		t.Errorf("%q", got)
	}
	s := "HELO " + strings.Repeat("x", 3<<20) + "\r\nHELO x\r\nMAIL FROM:<a@b>\r\nRCPT TO:<c@d>\r\nDATA\r\n" + strings.Repeat("x", 1<<21) + strings.Repeat(".", 1<<20) + "\r\n.\r\nQUIT\r\n"
	p, answers := fed(s, 1)
	check(t, s, p, answers)
}

func TestPostMemory(t *testing.T) { // P2, and rule 4: what is fed stays as it is, and answers are new memory
	const s = "HELO x\r\nMAIL FROM:<a@b>\r\nRCPT TO:<c@d>\r\nDATA\r\n..x\r\n.y\r\n.\r\nMAIL FROM:<a@b>\r\nRCPT TO:<c@d>\r\nRCPT TO:<e@f>\r\nDATA\r\nz\r\n.\r\nMAIL FROM:<a@b>\r\nRCPT TO:<g@h>\r\nDATA\r\nbegun\r\nonly a li"
	for _, size := range []int{1, 5, 14, 1000} {
		p := NewPost()
		answers := ""
		for piece := range slices.Chunk([]byte(s), size) {
			room := append([]byte("ahead"), piece...)
			room = append(room, "spare"...)
			answer := p.Feed(room[5 : 5+len(piece) : len(room)])
			if string(room) != "ahead"+string(piece)+"spare" {
				t.Fatalf("%q was changed to %q", piece, room)
			}
			answers += string(answer)
			clear(room)
			clear(answer[:cap(answer)])
		}
		answers += string(p.Feed([]byte("ne\r\n.\r\n")))
		check(t, s+"ne\r\n.\r\n", p, answers)
		mails, want := p.Mails(), told(p.Mails())
		for i := range mails {
			clear(mails[i].Bytes[:cap(mails[i].Bytes)])
			clear(mails[i].To[:cap(mails[i].To)])
			rest := told(mails[i+1:])
			if !strings.HasSuffix(want, rest) {
				t.Errorf("mails share with mail %d", i)
			}
		}
		clear(mails[:cap(mails)])
		if told(p.Mails()) != want {
			t.Error("mails share with those that were answered")
		}
	}
}
