package rewrite

import (
	"bytes"
	"math"
	"slices"
	"strings"
	"testing"

	"despatch/api"
)

// dice gives throws: each is one of the first n numbers.
func dice(first int) func(n int) int {
	x := uint32(first)*2654435761 + 12345
	return func(n int) int {
		x = x*1664525 + 1013904223
		return int(x>>8) % n
	}
}

// apply is Apply of a text; it tells when what was handed in was changed, or is shared.
func apply(t *testing.T, s string, x api.Rewrite) string {
	t.Helper()
	room := []byte(s + "behind")
	b := room[:len(s)]
	made := Apply(b, x)
	got := string(made)
	for i := range made {
		made[i] ^= 0xff
	}
	_ = append(made, "more than a bit"...)
	if string(room) != s+"behind" {
		t.Errorf("%q, %+v: it is %q then", s, x, room)
	}
	if !slices.Equal(Apply(b, x), []byte(got)) {
		t.Errorf("%q, %+v: another answer", s, x)
	}
	return got
}

// known is a row of texts, what is done to them, and what they are then.
type known struct {
	s    string
	x    api.Rewrite
	want string
}

// check holds Apply, and the slow form, against a table.
func check(t *testing.T, list []known) {
	t.Helper()
	for _, c := range list {
		if got := apply(t, c.s, c.x); got != c.want {
			t.Errorf("%q, %+v: %q, want %q", c.s, c.x, got, c.want)
		}
		if got := slowApply(c.s, c.x); got != c.want {
			t.Errorf("%q, %+v: the slow form gives %q, want %q", c.s, c.x, got, c.want)
		}
	}
}

// same are texts that something leaves as they are.
func same(x api.Rewrite, texts ...string) []known {
	var list []known
	for _, s := range texts {
		list = append(list, known{s, x, s})
	}
	return list
}

func TestProtected(t *testing.T) { // P20.1
	for _, name := range []string{"From", "To", "Message-ID", "X-Thread", "X-Keys", "Content-Type", "Content-Transfer-Encoding"} {
		for _, s := range []string{name, strings.ToLower(name), strings.ToUpper(name), strings.ToLower(name[:1]) + name[1:]} {
			if !Protected(s) {
				t.Errorf("%q isn't", s)
			}
		}
		for _, s := range []string{name[1:], name[:len(name)-1], name + "s", name + " ", " " + name, name + ":", name + "\r\n", name + "\x00", "X-" + name} {
			if Protected(s) {
				t.Errorf("%q is", s)
			}
		}
		for i := range len(name) {
			turned := []byte(name)
			turned[i] ^= 1
			if Protected(string(turned)) {
				t.Errorf("%q is", turned)
			}
		}
	}
	for _, s := range []string{"", "Subject", "Received", "X-Trace", "Date", "Cc", "Sender", "MIME-Version", "Content-ID", "X_Keys", "X\rKeys", "Me\u017f\u017fage-ID", "X-\u212aeys", "X-Key\u017f", "\xff"} {
		if Protected(s) {
			t.Errorf("%q is", s)
		}
	}
}

func TestLinesEnds(t *testing.T) { // P20.1: RwBare and RwWhole, of any bytes
	bare, whole := api.Rewrite{Kind: api.RwBare, N: -1, M: -1, Text: "x"}, api.Rewrite{Kind: api.RwWhole, N: 3, M: 3, Text: "x"}
	check(t, []known{
		{"a: b\r\n\r\nc\r\nd", bare, "a: b\n\nc\nd"},
		{"\r\r\n\n\r", bare, "\r\n\n\r"},
		{"a\r\n", bare, "a\n"},
		{"a: b\n\nc\nd", whole, "a: b\r\n\r\nc\r\nd"},
		{"a\nb\r\nc\rd\n", whole, "a\r\nb\r\nc\rd\r\n"},
		{"\n\n\r\r\n\r", whole, "\r\n\r\n\r\r\n\r"},
		{"\r\n\n", whole, "\r\n\r\n"},
	})
	check(t, slices.Concat(same(bare, "", "a\rb", "\n", "a\n\rb\r"), same(whole, "", "a\rb", "\r\n", "\r\r\n", "\r")))
}

func TestFold(t *testing.T) { // P20.1
	fold := func(n, m int) api.Rewrite { return api.Rewrite{Kind: api.RwFold, N: n, M: m} }
	list := []known{
		{"S: a b c\r\n\r\nx y", fold(0, 1), "S: a\r\n b c\r\n\r\nx y"},
		{"S: a b c\n\n", fold(0, 3), "S: a\r\n b\r\n c\n\n"},
		{"S: a\n b\r\n\tc\r\n\n", fold(0, 0), "S: a b\tc\r\n\n"},
		{"S: a\r\n b\n\tc\n\n", fold(0, 2), "S: a b\r\n\tc\n\n"},
		{"S:a b\n\n", fold(0, 1), "S:a\r\n b\n\n"},
		{"S:ab c\n\n", fold(0, 1), "S:ab\r\n c\n\n"},
		{"S: a  \t b\n\n", fold(0, -1), "S: a\r\n  \t b\n\n"},
		{"S: a \n\n", fold(0, 1), "S: a\r\n \n\n"},
		{"S:\n a b\n\n", fold(0, -1), "S: a\r\n b\n\n"},
		{"S x: a: b c\n\n", fold(0, 5), "S x: a:\r\n b c\n\n"},
		{"S x\n y\n\n", fold(0, -1), "S x y\n\n"},
		{"S x\n y: z w\n\n", fold(0, -1), "S x y: z\r\n w\n\n"},
		{"S: a\r b\n\n", fold(0, 1), "S: a\r\r\n b\n\n"},
		{"S: a\r\r\n b\n\n", fold(0, 0), "S: a\r b\n\n"},
		{"S: a\n \n b\n\n", fold(0, 1), "S: a\r\n  b\n\n"},
		{"A: b c\nB: c d\n e\nC: e f\n\n", fold(1, 2), "A: b c\nB: c d\r\n e\nC: e f\n\n"},
		{"A: b c\nB: c d\nC: e f\n\n", fold(-1, 1), "A: b c\nB: c d\nC: e\r\n f\n\n"},
		{"A: b c\nB: c d\nC: e f\n\n", fold(3, 1), "A: b\r\n c\nB: c d\nC: e f\n\n"},
		{"A: b c\nB: c d\nC: e f\n\n", fold(math.MinInt, 1), "A: b c\nB: c\r\n d\nC: e f\n\n"},
		{"From: a b\n\n", fold(0, 1), "From: a\r\n b\n\n"},
	}
	check(t, slices.Concat(list, same(fold(0, -1), "S:  b\n\n", "S: \t b\n\n", "S:\n\n", "S: \n\n", "S:ab\n\n", "S\n\n", ":\n\n")))
	words := strings.Repeat(" a", 18)
	for m := range 16 { // the 17th such blank has the first bit again
		want := "S: b"
		for place := range 18 {
			if place%16 == m {
				want += "\r\n"
			}
			want += " a"
		}
		check(t, []known{{"S: b" + words + "\n\n", fold(0, 1<<m), want + "\n\n"}})
	}
	check(t, same(fold(0, 1<<16), "S: b"+words+"\n\n"))
}

func TestCase(t *testing.T) { // P20.1
	turn := func(n, m int) api.Rewrite { return api.Rewrite{Kind: api.RwCase, N: n, M: m} }
	list := []known{
		{"From: a@b\n\n", turn(0, 1), "From: a@b\n\n"},
		{"From: a@b\n\n", turn(0, 2), "fRom: a@b\n\n"},
		{"From: a@b\n\n", turn(0, 0), "from: a@b\n\n"},
		{"from: a@B\n\n", turn(0, -1), "FROM: a@B\n\n"},
		{"x-keys: a\n\n", turn(0, 5), "X-Keys: a\n\n"},
		{"AZaz@[`{0 \xc1\xe1\xdf:AZaz\n\n", turn(0, 0b0110), "aZAz@[`{0 \xc1\xe1\xdf:AZaz\n\n"},
		{"a b\tc:d\n\n", turn(0, -1), "A B\tC:d\n\n"},
		{"abcdefghijklmnopqrs: a\n\n", turn(0, 1|1<<15|1<<17), "AbcdefghijklmnoPQrs: a\n\n"},
		{"A: b\nC: D\n E: f\ng: h\n\ni: j", turn(-2, 0), "A: b\nc: D\n E: f\ng: h\n\ni: j"},
		{"a: b\nc: d\n\n", turn(3, math.MaxInt), "a: b\nC: d\n\n"},
		{"a: b\nc: d\n\n", turn(2, math.MinInt|1), "A: b\nc: d\n\n"},
	}
	check(t, slices.Concat(list, same(turn(0, -1), "abc\n d: e\n\n", ":a\n\n", "A\n\n", "\n:\n"), same(turn(0, 0), "Abc\n D: e\n\n", "\r: A\n\n")))
}

func TestDrop(t *testing.T) { // P20.1
	drop := func(n int) api.Rewrite { return api.Rewrite{Kind: api.RwDrop, N: n, M: 7, Text: "a"} }
	const three = "From: a\r\nS: b\n c\r\n\td\nT: e\n\r\nf\n"
	list := []known{
		{three, drop(1), "From: a\r\nT: e\n\r\nf\n"},
		{three, drop(-2), "From: a\r\nT: e\n\r\nf\n"},
		{three, drop(2), "From: a\r\nS: b\n c\r\n\td\n\r\nf\n"},
		{three, drop(5), "From: a\r\nS: b\n c\r\n\td\n\r\nf\n"},
		{"S: b\n\n", drop(0), "\n"},
		{"S\n\n", drop(9), "\n"},
		{"From\n : a\nb: c\n\n", drop(0), "b: c\n\n"},
		{"From : a\n\n", drop(0), "\n"},
		{"\r: a\n\n", drop(0), "\n"},
	}
	stays := []string{three, "to: a\n\n", "MESSAGE-ID:\n a\n\n", "x-thREAD:a\n\n", "X-keys:\n\n", "content-type::\n\n", "cONTENT-tRANSFER-eNCODING: base64\n\nAA"}
	check(t, slices.Concat(list, same(drop(0), stays...)))
}

func TestAdd(t *testing.T) { // P20.1
	add := func(m int, text string) api.Rewrite { return api.Rewrite{Kind: api.RwAdd, N: 1, M: m, Text: text} }
	long := strings.Repeat("ab ", 66) + "c"
	list := []known{
		{"A: b\n\nc", add(0, "x y"), "Received: x y\r\nA: b\n\nc"},
		{"A: b\n\nc", add(1, "x"), "X-Trace: x\r\nA: b\n\nc"},
		{"A: b\n\nc", add(2, "x"), "Date: x\r\nA: b\n\nc"},
		{"A: b\n\nc", add(3, "x"), "Received: x\r\nA: b\n\nc"},
		{"A: b\n\nc", add(-1, "x"), "Date: x\r\nA: b\n\nc"},
		{"A: b\n\nc", add(-3, "x"), "Received: x\r\nA: b\n\nc"},
		{"A: b\n\nc", add(math.MinInt, "x"), "X-Trace: x\r\nA: b\n\nc"},
		{"A: b\n\nc", add(math.MaxInt, "x"), "X-Trace: x\r\nA: b\n\nc"},
		{"A: b\n\nc", add(0, ""), "Received: \r\nA: b\n\nc"},
		{"A: b\n\nc", add(0, "~\t!"), "Received: ~\t!\r\nA: b\n\nc"},
		{"A: b\n\nc", add(0, long+"d"), "Received: " + long + "d\r\nA: b\n\nc"},
		{"\nc", add(0, "x"), "Received: x\r\n\nc"},
		{" A: b\n\nc", add(0, "x"), "Received: x\r\n A: b\n\nc"},
		{"A\n\r\n", add(0, "x"), "Received: x\r\nA\n\r\n"},
	}
	if len(long) != 199 {
		t.Error(len(long))
	}
	check(t, list)
	for _, text := range []string{long + "de", " x", "x ", "\tx", "x\t", " ", "\t", "x\ny", "x\r\n y", "x\r", "\x7f", "\x00", "\u00e9", "a\x80b", "a\x1fb", strings.Repeat("a", 8192), strings.Repeat("a", 8193)} {
		check(t, same(add(0, text), "A: b\n\nc"))
	}
	check(t, same(add(0, "x"), "", "A: b", "A: b\n", "A: b\r\n", "A: b\n\r", "A: b\n\r\r\n", "A: b\n \nc", "\r"))
}

func TestOrder(t *testing.T) { // P20.1
	order := func(n int) api.Rewrite { return api.Rewrite{Kind: api.RwOrder, N: n, M: 1} }
	const four = "A: b\n c\r\nD: e\r\nd: f\n\tg\nh\n\r\nA: b\nC: d\n"
	list := []known{
		{four, order(0), "D: e\r\nA: b\n c\r\nd: f\n\tg\nh\n\r\nA: b\nC: d\n"},
		{four, order(2), "A: b\n c\r\nD: e\r\nh\nd: f\n\tg\n\r\nA: b\nC: d\n"},
		{four, order(-4), "D: e\r\nA: b\n c\r\nd: f\n\tg\nh\n\r\nA: b\nC: d\n"},
		{"From: a\nfro\n\n", order(0), "fro\nFrom: a\n\n"},
		{"A: b\nA : c\n\n", order(0), "A : c\nA: b\n\n"},
		{"K: b\n\u212a: c\n\n", order(0), "\u212a: c\nK: b\n\n"},
		{"From: a\nTo: b\n\n", order(2), "To: b\nFrom: a\n\n"},
	}
	check(t, slices.Concat(list, same(order(1), four, "a: b\nB: c\n\n"), same(order(3), four), same(order(-1), four), same(order(0), "A: b\n\n", "a\nb\n\n", ":a\nb\n\n", "X-A:\nx-a: c\n\n")))
}

func TestLeft(t *testing.T) { // P20.1: what is left as it is
	texts := []string{"", "a", "A: b", "A: b\n", "A: b\r\n", "A: B c\nC: d e\n", "A: b c\n\r", "A: b c\n \n", "A: b c\r\n\r\r\n", "\n", "\r\n", "\nA: b c\nC: d\n\n", "\r\n\nA: b", " A: b c\nC: d\n\nAA", "\tA: b c\nC: d\n\nAA", " \nA: b c\nC: d\n\n", " \n\n--x\nContent-Transfer-Encoding: base64\n\nAA\n", "\n--x\nContent-Transfer-Encoding: base64\n\nAA\n", "Content-Transfer-Encoding: base64\n", " \nContent-Transfer-Encoding: base64\n\nA\nA"}
	for _, kind := range []int{api.RwFold, api.RwCase, api.RwDrop, api.RwOrder, api.RwWrap} {
		for m := -3; m < 4; m++ {
			check(t, same(api.Rewrite{Kind: kind, N: m, M: m}, texts...))
		}
	}
	for _, kind := range []int{0, 9, -1, 10, 256, 257, math.MaxInt, math.MinInt} {
		check(t, same(api.Rewrite{Kind: kind, M: 1, Text: "x"}, append(texts, "A: b c\r\nC: d\n\nx\n", "Content-Transfer-Encoding: base64\n\nA\nA")...))
	}
}

func TestAll(t *testing.T) { // P20.1: each in order, to what is there then
	for n := range 2000 {
		roll := dice(n)
		s := mailOfDice(roll)
		var list []api.Rewrite
		want := s
		for range roll(8) {
			x := rewriteOfDice(roll)
			list = append(list, x)
			want = slowApply(want, x)
		}
		b, told := []byte(s), slices.Clone(list)
		made := All(b, list)
		if string(made) != want {
			t.Errorf("%q, %+v: %q, want %q", s, list, made, want)
		}
		for i := range made {
			made[i] ^= 0xff
		}
		if string(b) != s || !slices.Equal(list, told) {
			t.Errorf("%q, %+v: they are %q, %+v then", s, told, b, list)
		}
	}
	b := []byte("A: b\n\n")
	for _, list := range [][]api.Rewrite{nil, {}, {{}}} {
		if made := All(b, list); !bytes.Equal(made, b) || &made[0] == &b[0] {
			t.Errorf("%q", made)
		}
	}
	if made := All(nil, []api.Rewrite{{Kind: api.RwWhole}}); len(made) != 0 {
		t.Errorf("%q", made)
	}
}

// mailOfDice gives bytes of which many are a mail's.
func mailOfDice(roll func(n int) int) string {
	pieces := []string{"A", "b", ":", ": ", " ", "\t", "\r", "\n", "\n", "\r\n", "\r\n", "\n\n", "\r\n\r\n", "-", "--", "\n--x\n", "\n--x--\n", "From: a@b\n", "To: c d e\r\n", "x-keys: AA==\r\n\tBB\n", "S: a b\tc  d\n e\n", "AAAA\nBB\n", "\n\n--\ncontent-transfer-encoding:base64\n\nAAAAA\n", "\nContent-Transfer-Encoding: base64\n", "CONTENT-transfer-Encoding:\tbase\n 64\r\n", "Content-Transfer-Encoding: 8bit\n", "Content-Transfer-Encoding:ba\u017fe64\n", "\xff", "\u00e9"}
	s := ""
	for range roll(5) {
		s += pieces[17+roll(len(pieces)-17)]
	}
	for range roll(16) {
		s += pieces[roll(len(pieces))]
	}
	return s
}

// rewriteOfDice gives something that may be done.
func rewriteOfDice(roll func(n int) int) api.Rewrite {
	numbers := []int{0, 1, 2, 3, 4, 5, 75, 76, 77, -1, -2, -76, 0x5555, 0xaaaa, 1 << 16, math.MaxInt, math.MinInt}
	texts := []string{"", "x", "a b\tc", " x", "x\n", "\u00e9", strings.Repeat("a", 200), strings.Repeat("a", 201)}
	return api.Rewrite{Kind: roll(10), N: numbers[roll(len(numbers))], M: numbers[roll(len(numbers))], Text: texts[roll(len(texts))]}
}

func TestSlow(t *testing.T) { // P1, P2, P20.1: texts of no order
	many := make([]int, 10)
	for n := range 40000 {
		roll := dice(n)
		s, x := mailOfDice(roll), rewriteOfDice(roll)
		got, want := apply(t, s, x), slowApply(s, x)
		if got != want {
			t.Errorf("%q, %+v: %q, want %q", s, x, got, want)
		}
		if got != s {
			many[x.Kind]++
		}
	}
	for kind, n := range many {
		if most := kind == 0 || kind == 9; most && n > 0 || !most && n < 300 {
			t.Errorf("%d: %d were changed", kind, n)
		}
	}
}

func TestShort(t *testing.T) { // P20.1: all short texts
	const signs = "A: \r\n-"
	var list []api.Rewrite
	for kind := api.RwBare; kind <= api.RwWrap; kind++ {
		list = append(list, api.Rewrite{Kind: kind, M: 2}, api.Rewrite{Kind: kind, N: 1, M: 5})
	}
	texts := []string{""}
	for range 5 {
		var more []string
		for _, s := range texts {
			for i := range len(signs) {
				more = append(more, s+signs[i:i+1])
			}
		}
		for _, s := range more {
			for _, x := range list {
				if got, want := string(Apply([]byte(s), x)), slowApply(s, x); got != want {
					t.Errorf("%q, %+v: %q, want %q", s, x, got, want)
				}
			}
		}
		texts = more
	}
}
