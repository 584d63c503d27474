package mime

import (
	"bytes"
	"regexp"
	"slices"
	"strings"
	"testing"

	"despatch/api"
)

// dice gives numbers that seem to be of no order, each from 0 to one less than asked.
func dice(first int) func(n int) int {
	x := uint32(first)*2654435761 + 12345
	return func(n int) int {
		x = x*1664525 + 1013904223
		return int(x>>8) % n
	}
}

// textsOf gives all texts of some pieces, up to a number of them.
func textsOf(most int, pieces ...string) []string {
	all, last := []string{""}, []string{""}
	for range most {
		var longer []string
		for _, s := range last {
			for _, piece := range pieces {
				longer = append(longer, s+piece)
			}
		}
		all, last = append(all, longer...), longer
	}
	return all
}

// bytesOf gives texts as bytes.
func bytesOf(texts ...string) [][]byte {
	var list [][]byte
	for _, s := range texts {
		list = append(list, []byte(s))
	}
	return list
}

// same tells whether two lists of bytes are one.
func same(a, b [][]byte) bool { return slices.EqualFunc(a, b, bytes.Equal) }

// boundaryForm is what a boundary is, as a pattern.
var boundaryForm = regexp.MustCompile(`\A[A-Za-z0-9'()+_,\-./:=?]{1,70}\z`)

// endForm is the line's end that bytes end with.
var endForm = regexp.MustCompile(`\r?\n\z`)

// slowSplit is Split of a right boundary, as the chapter tells it: lines, of which some are the boundary's, and what stands between these.
func slowSplit(s, boundary string) ([][]byte, api.Errno) {
	form := regexp.MustCompile(`\A--` + regexp.QuoteMeta(boundary) + `(--)?[ \t]*(?:\r?\n)?\z`)
	var list [][]byte
	var between []string
	met := false
	for _, line := range strings.SplitAfter(s, "\n") {
		found := form.FindStringSubmatch(line)
		switch {
		case found == nil:
			between = append(between, line)
			continue
		case found[1] == "" && !met:
			met = true
		case met:
			list = append(list, []byte(endForm.ReplaceAllString(strings.Join(between, ""), "")))
			if found[1] != "" {
				return list, api.OK
			}
		}
		between = nil
	}
	return nil, api.ErrForm
}

func TestBoundary(t *testing.T) { // P12.1
	for c := range 256 {
		for _, ends := range [][2]string{{"", ""}, {"a", ""}, {"", "a"}, {"a", "Z"}, {"0", "--"}} {
			s := ends[0] + string([]byte{byte(c)}) + ends[1]
			if got := Boundary(s); got != boundaryForm.MatchString(s) {
				t.Errorf("%q: %v", s, got)
			}
		}
	}
	for n := range 100 {
		for _, piece := range []string{"a", "-", "?", " ", "\u00e9"} {
			s := strings.Repeat(piece, n)
			if got := Boundary(s); got != boundaryForm.MatchString(s) {
				t.Errorf("%q: %v", s, got)
			}
		}
	}
	for s, want := range map[string]bool{
		"": false, "b": true, "--": true, "despatch-part": true, "'()+_,-./:=?": true, "azAZ09": true, "a b": false, " b": false, "b ": false, "b\t": false, "b\r\n": false, "b;": false, "b*": false, "b\"": false, "@": false,
		strings.Repeat("x", 70): true, strings.Repeat("x", 71): false, "\xff": false, "\x00": false, "\u212a": false, "1\u0661": false,
	} {
		if got := Boundary(s); got != want {
			t.Errorf("%q: %v", s, got)
		}
	}
}

func TestSplitKnown(t *testing.T) { // P12.1
	long := strings.Repeat("'", 70)
	for _, c := range []struct {
		b, boundary string
		want        [][]byte
	}{
		{"--x\na\n--x--", "x", bytesOf("a")},
		{"--x\r\na\r\n--x--\r\n", "x", bytesOf("a")},
		{"--x\n--x--", "x", bytesOf("")},
		{"--x\n\n--x--", "x", bytesOf("")},
		{"--x\r\n\r\n--x--", "x", bytesOf("")},
		{"--x\n\n\n--x--", "x", bytesOf("\n")},
		{"--x\n\r\n\r\n--x--", "x", bytesOf("\r\n")},
		{"--x\na\r\r\n--x--", "x", bytesOf("a\r")},
		{"--x\na\n\r\n--x--", "x", bytesOf("a\n")},
		{"--x\na\n\n--x\nb\n--x\n\n--x\n--x--", "x", bytesOf("a\n", "b", "", "")},
		{"--x \t \na\n--x\t--\n--x-- \t \r\n", "x", bytesOf("a\n--x\t--")},
		{"ahead\n--x--\n--xx\n--x\na\n--x--behind\n--x--\n--x\nc\n--x--", "x", bytesOf("a\n--x--behind")},
		{"--x\n --x\n-x\n--X\n--\nx\n--x\r\r\n---x\n--x-\n--x---\n--x--\r\r\n--x--", "x", bytesOf(" --x\n-x\n--X\n--\nx\n--x\r\r\n---x\n--x-\n--x---\n--x--\r")},
		{"--x--\na\n--x----\n", "x--", bytesOf("a")},
		{"----\na\n------", "--", bytesOf("a")},
		{"--" + long + "\n\x00\xff\n--" + long + "--", long, bytesOf("\x00\xff")},
		{"--.\n--a\nb\n--.--", ".", bytesOf("--a\nb")},
	} {
		if got, code := Split([]byte(c.b), c.boundary); code != api.OK || !same(got, c.want) {
			t.Errorf("%q by %q: %q, %v", c.b, c.boundary, got, code)
		}
	}
}

func TestSplitWrong(t *testing.T) { // P12.1
	for _, b := range []string{"", "\n", "x", "--x", "--x--", "--x\n", "--x\n--x\n", "--x--\n--x", "--x--\n--x\na\n--x", "--x\na\n--x-- b", "--x\na\n --x--", "--x\na\n--x--\r", "--x\r", "--x\r--x--", "--x a\n--x--", "--xx\n--xx--", "--X\n--X--", "--x\n--X--", "--x --\n--x --", "-x\n-x--", "--\n----", "--x\x00\n--x--", "--x\x00\n--x\x0b\n--x--", "--x--\n--x--"} {
		if got, code := Split([]byte(b), "x"); code != api.ErrForm || got != nil {
			t.Errorf("%q: %q, %v", b, got, code)
		}
	}
	// What may be no boundary comes ahead of what the bytes are.
	for _, boundary := range []string{"", " ", "a b", "x ", "\u00e9", "x\r", "x\n", strings.Repeat("x", 71)} {
		for _, b := range []string{"", "a", "--" + boundary, "--" + boundary + "\na\n--" + boundary + "--"} {
			if got, code := Split([]byte(b), boundary); code != api.ErrArg || got != nil {
				t.Errorf("%q by %q: %q, %v", b, boundary, got, code)
			}
		}
	}
}

// trySplit holds Split against the slow one.
func trySplit(t *testing.T, s, boundary string) {
	t.Helper()
	got, code := Split([]byte(s), boundary)
	want, wrong := slowSplit(s, boundary)
	if code != wrong || !same(got, want) {
		t.Errorf("%q by %q: %q, %v, want %q, %v", s, boundary, got, code, want, wrong)
	}
}

func TestSplitAll(t *testing.T) { // P12.1
	for _, s := range textsOf(5, "--x", "--", "\n", "\r", " ", "x") {
		for _, whole := range []string{s, "--x\n" + s + "\n--x--", "--x\n--x" + s + "\n--x--", "--x" + s + "--x--", "--x\n--x--" + s, s + "--x\n--x--"} {
			trySplit(t, whole, "x")
			trySplit(t, whole, "x--")
		}
	}
	for n := range 3000 {
		roll, s := dice(n), ""
		for range roll(60) {
			s += []string{"--b.", "--b.--", "--b", "\n--b.", "\n--b.--", "\r\n", "\n", "\r", " ", "\t", "-", "\xff"}[roll(12)]
		}
		trySplit(t, s, "b.")
	}
}

func TestSplitMany(t *testing.T) { // P1, P12.1: it ends soon, however many lines there are, and however long they are
	const many = 300000
	got, code := Split([]byte(strings.Repeat("--x\n", many)+"--x--"), "x")
	if code != api.OK || len(got) != many {
		t.Errorf("%d, %v", len(got), code)
	}
	for _, piece := range []string{"\n", "\r\n", " ", "--x", "--x ", "--x--", "\r", "a\n"} {
		inside := strings.Repeat(piece, many)
		got, code := Split([]byte("--x\n."+inside+".\n--x--"), "x")
		if code != api.OK || !slices.ContainsFunc(got, func(b []byte) bool { return len(b) > many/2 }) {
			t.Errorf("%q: %d, %v", piece, len(got), code)
		}
	}
}

func TestSplitMemory(t *testing.T) { // P12.4, and P2: the same calls give the same answers, whatever becomes of others
	const text = "ahead--x\none\n--x\n\n--x\nthree\n--x--behind"
	b := []byte(text)
	within := b[5 : len(b)-6]
	want := bytesOf("one", "", "three")
	one, _ := Split(within, "x")
	two, code := Split(within, "x")
	if code != api.OK || !same(one, want) {
		t.Fatalf("%q, %v", one, code)
	}
	for _, each := range one {
		clear(each[:cap(each)])
	}
	if string(b) != text {
		t.Errorf("the argument changes, or with the answer: %q", b)
	}
	clear(b)
	if !same(two, want) {
		t.Errorf("the answer changes with another, or with the argument: %q", two)
	}
	for i, each := range two {
		clear(each[:cap(each)])
		for k := range i {
			want[k] = make([]byte, len(want[k]))
		}
		want[i] = make([]byte, len(want[i]))
		if !same(two, want) {
			t.Errorf("one list of an answer changes with another: %q", two)
		}
	}
}
