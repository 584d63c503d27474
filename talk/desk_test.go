package talk

import (
	"bytes"
	"fmt"
	"strconv"
	"strings"
	"testing"

	"despatch/api"
	"despatch/box"
	"despatch/disk"
	"despatch/store"
)

// boxOn gives the box of a new disk.
func boxOn(t *testing.T, blocks int) (*box.Box, *disk.Disk) {
	t.Helper()
	d, code := disk.New(blocks)
	if code != api.OK {
		t.Fatal(code)
	}
	s, code := store.Open(d)
	if code != api.OK {
		t.Fatal(code)
	}
	return box.New(s), d
}

// filled gives a box with some mails: three in the folder in, one in out, one in a.
func filled(t *testing.T) *box.Box {
	t.Helper()
	b, _ := boxOn(t, 4000)
	for _, m := range [][2]string{{"in", "a\r\n"}, {"in", ""}, {"in", ".\n..b\rc"}, {"out", "x"}, {"a", "\r\n.\r\n\xff\x00"}} {
		if _, code := b.Deliver(m[0], []byte(m[1])); code != api.OK {
			t.Fatal(code)
		}
	}
	return b
}

// asked asks one command after the other, and checks each answer.
func asked(t *testing.T, d *Desk, list [][2]string) {
	t.Helper()
	for i, c := range list {
		if got := strings.ReplaceAll(string(d.Ask(c[0])), "\r\n", "|"); got != c[1] {
			t.Errorf("%d: %q: %q, not %q", i, c[0], got, c[1])
		}
	}
}

func TestDeskKnown(t *testing.T) { // P21.3
	asked(t, NewDesk(filled(t)), [][2]string{
		// There is no folder yet; what is no command is BAD all the same.
		{"LIST", "NO 7|"}, {"FETCH 1", "NO 7|"}, {"STORE 1 0", "NO 7|"}, {"STORE 1 16", "NO 7|"}, {"EXPUNGE", "NO 7|"}, {"FETCH 01", "BAD|"}, {"LIST ", "BAD|"}, {"", "BAD|"},
		{"SELECT ", "NO 1|"}, {"SELECT a:b", "NO 1|"}, {"LIST", "NO 7|"},
		{"SELECT in", "* EXISTS 3|OK|"}, {"LIST", "* 1 2 3|OK|"},
		{"FETCH 1", "* FLAGS 0 SIZE 3|a|.|OK|"}, {"FETCH 2", "* FLAGS 0 SIZE 0|.|OK|"}, {"FETCH 3", "* FLAGS 0 SIZE 7|..|...b|c|.|OK|"},
		{"FETCH 0", "NO 7|"}, {"FETCH 4", "NO 7|"}, {"FETCH 9999999999", "NO 7|"}, {"FETCH 4294967297", "NO 7|"},
		{"STORE 1 15", "OK|"}, {"STORE 3 4", "OK|"}, {"FETCH 1", "* FLAGS 15 SIZE 3|a|.|OK|"}, {"STORE 1 11", "OK|"}, {"FETCH 1", "* FLAGS 11 SIZE 3|a|.|OK|"},
		{"STORE 1 16", "NO 1|"}, {"STORE 4 16", "NO 1|"}, {"STORE 4 15", "NO 7|"}, {"STORE 0 0", "NO 7|"}, {"STORE 1 9999999999", "NO 1|"}, {"FETCH 1", "* FLAGS 11 SIZE 3|a|.|OK|"},
		// With an error the folder is the one that it was.
		{"SELECT ", "NO 1|"}, {"SELECT a/b", "NO 1|"}, {"SELECT " + strings.Repeat("x", 41), "NO 1|"}, {"LIST", "* 1 2 3|OK|"},
		{"STORE 2 4", "OK|"}, {"EXPUNGE", "* 2 3|OK|"}, {"EXPUNGE", "*|OK|"}, {"LIST", "* 1|OK|"}, {"SELECT in", "* EXISTS 1|OK|"},
		{"SELECT out", "* EXISTS 1|OK|"}, {"LIST", "* 1|OK|"}, {"FETCH 1", "* FLAGS 0 SIZE 1|x|.|OK|"},
		{"SELECT IN", "* EXISTS 0|OK|"}, {"LIST", "*|OK|"}, {"FETCH 1", "NO 7|"}, {"EXPUNGE", "*|OK|"},
		{"SELECT a", "* EXISTS 1|OK|"}, {"FETCH 1", "* FLAGS 0 SIZE 7||..|\xff\x00|.|OK|"},
		{"SELECT " + strings.Repeat("x", 40), "* EXISTS 0|OK|"}, {"SELECT .", "* EXISTS 0|OK|"}, {"SELECT -", "* EXISTS 0|OK|"},
	})
}

func TestDeskBad(t *testing.T) { // P21.3: words with one blank between each two, and no others; numbers without a nought ahead
	d := NewDesk(filled(t))
	d.Ask("SELECT in")
	for _, command := range []string{
		"", " ", "  ", "SELECT", "SELECT in ", "SELECT  in", "SELECT in in", " SELECT in", "SELECT\tin", "SELECTin", "SELECT  ", "SELEC in", "SELECTS in",
		"LIST ", " LIST", "LIST 1", "LIST  ", "LIST\r\n", "LIST\n", "LIS", "LISTS", "L", "\u017fELECT in", "LI\u017fT", "\u017fTORE 1 1",
		"FETCH", "FETCH ", "FETCH  1", "FETCH 1 ", "FETCH 1 2", "FETCH 1 2 3", "FETCH 1 2 3 4", "FETCH 00", "FETCH 01", "FETCH 0000000001", "FETCH +1", "FETCH -1", "FETCH -0", "FETCH 1.0", "FETCH 1x", "FETCH x", "FETCH 0x1", "FETCH 1_0", "FETCH 1e1",
		"FETCH 10000000000", "FETCH 11111111111", "FETCH 99999999999999999999", "FETCH 18446744073709551617", "FETCH \u0661", "FETCH 1\r\n", "FETCH\t1", "FETCH1", "FETCH \xff",
		"STORE", "STORE ", "STORE 1", "STORE 1 ", "STORE 1  1", "STORE 1 1 ", "STORE  1 1", "STORE 1 1 1", "STORE 01 1", "STORE 1 01", "STORE 1 x", "STORE x 1", "STORE 1 -1", "STORE 1 10000000000", "STORE 10000000000 1", "STORE 1 1 1 1 1",
		"EXPUNGE ", "EXPUNGE 1", " EXPUNGE", "EXPUNG", "QUIT", "HELO x", "NOOP", "*", "OK", "\x00", "LIST\x00", strings.Repeat("LIST", 1000), strings.Repeat(" ", 1000), "FETCH " + strings.Repeat("1", 1<<20), "LIST" + strings.Repeat(" ", 1<<20),
	} {
		if got := string(d.Ask(command)); got != "BAD\r\n" {
			t.Errorf("%.60q: %q", command, got)
		}
	}
	asked(t, d, [][2]string{{"LIST", "* 1 2 3|OK|"}, {"FETCH 1", "* FLAGS 0 SIZE 3|a|.|OK|"}})
}

func TestDeskWords(t *testing.T) { // P21.3: words' letters are big and small, of A to Z alone; each byte put in, and put for another
	b := filled(t)
	for _, folder := range []string{"", "in"} {
		for _, command := range []string{"SELECT in", "LIST", "FETCH 1", "FETCH 10", "STORE 1 1", "STORE 3 10", "EXPUNGE", "SELECT "} {
			var all []string
			for k := range 1 << 7 {
				line := []byte(command)
				for i := range min(7, len(line)) {
					if k>>i&1 == 1 && line[i] >= 'A' && line[i] <= 'Z' {
						line[i] += 32
					}
				}
				all = append(all, string(line))
			}
			for at := range len(command) + 1 {
				for c := range 256 {
					x := string([]byte{byte(c)})
					all = append(all, command[:at]+x+command[at:], command[:at]+x+command[min(at+1, len(command)):])
				}
			}
			for _, line := range all {
				d, slow := NewDesk(b), &slowDesk{box: b}
				if folder != "" {
					d.Ask("SELECT " + folder)
					slow.ask("SELECT " + folder)
				}
				if strings.EqualFold(line, "EXPUNGE") {
					continue // two of them aren't alike
				}
				if got, want := string(d.Ask(line)), slow.ask(line); got != want {
					t.Errorf("%q: %q, not %q", line, got, want)
				}
				if got, want := string(d.Ask("LIST")), slow.ask("LIST"); got != want {
					t.Errorf("behind %q: %q, not %q", line, got, want)
				}
			}
		}
	}
	for k := range 1 << 7 {
		line := []byte("EXPUNGE")
		for i := range line {
			line[i] += byte(k >> i & 1 * 32)
		}
		b, _ := boxOn(t, 100)
		b.Deliver("in", nil)
		b.Mark("in", 1, 4)
		asked(t, NewDesk(b), [][2]string{{"SELECT in", "* EXISTS 1|OK|"}, {string(line), "* 1|OK|"}, {"LIST", "*|OK|"}})
	}
}

func TestDesk(t *testing.T) { // P21.3: commands of no order, with mails that come meanwhile
	for n := range 60 {
		roll := dice(n)
		one, _ := boxOn(t, 300)
		two, _ := boxOn(t, 300)
		d, slow := NewDesk(one), &slowDesk{box: two}
		answers := map[string]int{}
		for range 300 {
			folder := []string{"in", "out", "in.1", "", "x/y"}[roll(5)]
			if roll(4) == 0 {
				mail := bytes.Repeat([]byte([]string{".", "a\r\n", "\n", "b"}[roll(4)]), roll(60))
				one.Deliver(folder, mail)
				two.Deliver(folder, mail)
			}
			number := strconv.Itoa(roll(1 + roll(20)))
			command := []string{
				"SELECT " + folder, "LIST", "FETCH " + number, "STORE " + number + " " + strconv.Itoa(roll(18)), "EXPUNGE",
				"fetch " + number, "list", "FETCH 0" + number, "STORE " + number, "STORE " + number + " 4",
			}[roll(10)]
			got, want := string(d.Ask(command)), slow.ask(command)
			if got != want {
				t.Fatalf("%d: %q: %q, not %q", n, command, got, want)
			}
			lines := strings.Split(got, "\r\n")
			answers[lines[len(lines)-2]]++
		}
		if answers["OK"] < 20 || answers["NO 7"] < 5 || answers["BAD"] < 5 || answers["NO 1"] < 5 {
			t.Errorf("%d: %v", n, answers)
		}
	}
}

func TestDeskNoRoom(t *testing.T) { // P21.3: the errors of Mark and of Expunge, with nothing changed
	d, _ := disk.New(41)
	d.Write(40, api.Block{255, 255, 255, 254}) // no generation is left but one, so that nothing is committed once the half is full
	s, code := store.Open(d)
	if code != api.OK {
		t.Fatal(code)
	}
	b := box.New(s)
	b.Deliver("in", []byte("one"))
	b.Deliver("in", []byte("two"))
	b.Mark("in", 2, api.FlagDeleted)
	for b.Mark("in", 1, api.FlagTaken) == api.OK {
	}
	asked(t, NewDesk(b), [][2]string{
		{"SELECT in", "* EXISTS 2|OK|"}, {"STORE 1 0", "NO 6|"}, {"EXPUNGE", "NO 6|"}, {"LIST", "* 1 2|OK|"},
		{"FETCH 1", "* FLAGS 8 SIZE 3|one|.|OK|"}, {"FETCH 2", "* FLAGS 4 SIZE 3|two|.|OK|"}, {"STORE 3 0", "NO 7|"}, {"SELECT x", "* EXISTS 0|OK|"}, {"EXPUNGE", "*|OK|"},
	})
}

func TestDesks(t *testing.T) { // P2, P21.3: each desk has a folder of its own, and nothing else but its box
	b := filled(t)
	one, two := NewDesk(b), NewDesk(b)
	asked(t, one, [][2]string{{"SELECT in", "* EXISTS 3|OK|"}})
	asked(t, two, [][2]string{{"LIST", "NO 7|"}, {"SELECT out", "* EXISTS 1|OK|"}})
	b.Deliver("in", []byte("new"))
	b.Mark("in", 1, 4)
	asked(t, one, [][2]string{{"LIST", "* 1 2 3 4|OK|"}, {"FETCH 4", "* FLAGS 0 SIZE 3|new|.|OK|"}, {"FETCH 1", "* FLAGS 4 SIZE 3|a|.|OK|"}, {"EXPUNGE", "* 1|OK|"}})
	if got := fmt.Sprint(b.List("in"), b.List("out")); got != "[2 3 4] [1]" {
		t.Error(got)
	}
	first := one.Ask("FETCH 4")
	kept := string(first)
	if string(one.Ask("FETCH 4")) != kept {
		t.Error("another answer")
	}
	clear(first[:cap(first)])
	if string(one.Ask("FETCH 4")) != kept {
		t.Error("answers share")
	}
}

func TestDeskLarge(t *testing.T) { // P21.3: a large mail, and many numbers
	b, _ := boxOn(t, api.MaxBlocks)
	mail := bytes.Repeat([]byte(".x\n"), 1<<18)
	b.Deliver("in", mail)
	d := NewDesk(b)
	d.Ask("SELECT in")
	want := "* FLAGS 0 SIZE 786432\r\n" + strings.Repeat("..x\r\n", 1<<18) + ".\r\nOK\r\n"
	if got := string(d.Ask("FETCH 1")); got != want {
		t.Errorf("%d bytes, %.100q", len(got), got)
	}
	numbers := "* 1"
	for n := 2; n < 120; n++ {
		b.Deliver("in", nil)
		numbers += " " + strconv.Itoa(n)
	}
	asked(t, d, [][2]string{{"LIST", numbers + "|OK|"}, {"SELECT in", "* EXISTS 119|OK|"}})
}
