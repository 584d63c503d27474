package rewrite

import (
	"math"
	"slices"
	"strings"
	"testing"

	"despatch/api"
)

// wrap is that armor is cut anew.
func wrap(m int) api.Rewrite { return api.Rewrite{Kind: api.RwWrap, N: 1, M: m, Text: "x"} }

func TestWrapAll(t *testing.T) { // P20.1: a body that is armor
	const head = "Content-Transfer-Encoding: base64\n\n"
	check(t, []known{
		{head + "AAAA\nBB\r\nC", wrap(0), head + "A\r\nA\r\nA\r\nA\r\nB\r\nB\r\nC\r\n"},
		{head + "AAAA\nBB\r\nC", wrap(1), head + "AA\r\nAA\r\nBB\r\nC\r\n"},
		{head + "AAAA\nBB\r\nC", wrap(75), head + "AAAABBC\r\n"},
		{head + "AAAA\nBB\r\nC", wrap(-1), head + "AAAABBC\r\n"},
		{head + "AAAA\nBB\r\nC", wrap(76), head + "A\r\nA\r\nA\r\nA\r\nB\r\nB\r\nC\r\n"},
		{head + "AAAA\nBB\r\nC", wrap(-74), head + "AAA\r\nABB\r\nC\r\n"},
		{head + "AAAA\nBB\r\nC", wrap(math.MinInt), head + "AAAABBC\r\n"},
		{head, wrap(0), head},
		{head + "\n\r\n\n", wrap(0), head},
		{head + "A\n\n\r\nB", wrap(1), head + "AB\r\n"},
		{head + " A\tB \r\n", wrap(1), head + " A\r\n\tB\r\n \r\n"},
		{head + "A\rB\r\r\nC", wrap(2), head + "A\rB\r\n\rC\r\n"},
		{head + "--x\nContent-Transfer-Encoding: base64\n\nAA\n--x--", wrap(75), head + "--xContent-Transfer-Encoding: base64AA--x--\r\n"},
		{head + "\x00\xff\xc3\n\xa9", wrap(0), head + "\x00\r\n\xff\r\n\xc3\r\n\xa9\r\n"},
	})
	full, over := strings.Repeat("A", 76), strings.Repeat("A", 77)
	check(t, []known{{head + full, wrap(75), head + full + "\r\n"}, {head + over, wrap(75), head + full + "\r\nA\r\n"}, {head + over, wrap(74), head + full[1:] + "\r\nAA\r\n"}})
}

func TestWrapHeads(t *testing.T) { // P20.1: heads that tell of armor, and others
	const body = "\nAAA\nB\n"
	for _, head := range []string{"content-transfer-encoding:BASE64", "CONTENT-TRANSFER-ENCODING:\t b a\ts e64\t", "Content-Transfer-Encoding:\n base64", "Content-Transfer-Encoding:\r\n \n\tbase\r\n 64", "Content-Transfer-Encoding:\r\rbas\re64\r", "Content-Transfer-Encoding: base64\ncontent-transfer-encoding: 8bit", "A: b\nContent-Transfer-Encoding: Base64\nC: d"} {
		check(t, []known{{head + "\n" + body, wrap(1), head + "\n\nAA\r\nAB\r\n"}, {head + "\r\n\r" + body, wrap(2), head + "\r\n\r\nAAA\r\nB\r\n"}})
	}
	for _, head := range []string{"A: base64", "Content-Transfer-Encoding: 8bit\nContent-Transfer-Encoding: base64", "Content-Transfer-Encoding:\nContent-Transfer-Encoding: base64", "Content-Transfer-Encoding: base64x", "Content-Transfer-Encoding: base6", "Content-Transfer-Encoding: base64;", "Content-Transfer-Encoding: \"base64\"", "Content-Transfer-Encoding: base64 (x)", "Content-Transfer-Encoding:: base64", "Content-Transfer-Encoding : base64", "Content-Transfer-Encoding\n : base64", "A: b\n Content-Transfer-Encoding: base64", "Content-Transfer-Encoding base64", "Content-Transfer-Encoding: ba\u017fe64", "Content-Tran\u017ffer-Encoding: base64", "Content-Transfer-Encoding: base64\x00", "Content-Transfer-Encoding: base64\x0b"} {
		check(t, same(wrap(1), head+"\n"+body, head+"\n\n--x\n\nAAAA\n--x--"))
	}
}

func TestWrapParts(t *testing.T) { // P20.1: parts that are armor, and others
	const head, tells = "A: b\n\n", "Content-Transfer-Encoding: base64\n"
	check(t, []known{
		{head + "--x\n" + tells + "\nAAA\nB\n--x--\n", wrap(1), head + "--x\n" + tells + "\nAA\r\nAB\r\n\r\n--x--\n"},
		{head + "--x\r\n" + tells + "\r\nAAA\r\nB\r\n\r\n--x--", wrap(2), head + "--x\r\n" + tells + "\r\nAAA\r\nB\r\n\r\n--x--"},
		{head + "--x\n" + tells + "\nAAA\nB", wrap(1), head + "--x\n" + tells + "\nAA\r\nAB\r\n"},
		{head + "--x\n" + tells + "\n\n\nA\n\nB\n\n", wrap(1), head + "--x\n" + tells + "\nAB\r\n"},
		{head + "--x\n" + tells + "\n--x--\n", wrap(1), head + "--x\n" + tells + "\n\r\n--x--\n"},
		{head + "--x\n" + tells + "\n\n--x--\n", wrap(1), head + "--x\n" + tells + "\n\r\n--x--\n"},
		{head + "--x\n" + tells + "\n", wrap(1), head + "--x\n" + tells + "\n"},
		{head + "--\nK: a\n" + tells + "L: b\n c\n\nAAA\n--", wrap(1), head + "--\nK: a\n" + tells + "L: b\n c\n\nAA\r\nA\r\n\r\n--"},
		{head + "--x\n" + tells + "\nAAA\n --x\n-\nB\n--y\n\nAAA\n", wrap(1), head + "--x\n" + tells + "\nAA\r\nA \r\n--\r\nx-\r\nB\r\n\r\n--y\n\nAAA\n"},
		{head + "ahead\n\n--x\n" + tells + "\nAAA\n--x\n\nBBB\n--x\n" + tells + "\nCCC\n--x--\n\n" + tells + "\nDDD", wrap(1), head + "ahead\n\n--x\n" + tells + "\nAA\r\nA\r\n\r\n--x\n\nBBB\n--x\n" + tells + "\nCC\r\nC\r\n\r\n--x--\n\n" + tells + "\nDDD"},
		{head + "--x--\n" + tells + "\nAAA", wrap(1), head + "--x--\n" + tells + "\nAA\r\nA\r\n"},
		{head + "--x\n--y\n" + tells + "\nAAA", wrap(1), head + "--x\n--y\n" + tells + "\nAA\r\nA\r\n"},
		{head + "--x\n" + tells + tells + "\nAAA", wrap(1), head + "--x\n" + tells + tells + "\nAA\r\nA\r\n"},
		{"Content-Transfer-Encoding: 8bit\n\n--x\n" + tells + "\nAAA", wrap(1), "Content-Transfer-Encoding: 8bit\n\n--x\n" + tells + "\nAA\r\nA\r\n"},
	})
	none := []string{tells + "\nAAA\n--", "x\n" + tells + "\nAAA\n--", "--x\n\n" + tells + "\nAAA\n--", "--x\n" + tells + "--y\n\nAAA\n--", "--x\n" + tells + "AAA\n--", "-x\n" + tells + "\nAAA\n--", " --x\n" + tells + "\nAAA\n--", "--x\n" + tells + " \nAAA\n--", "--x\n" + tells + "\r\r\nAAA\n--", "--x\n--" + tells + "\nAAA", "--x\n" + tells, "--x\n" + tells + "\r"}
	for _, body := range none {
		check(t, same(wrap(1), head+body))
	}
}

func TestWrapTells(t *testing.T) { // P20.1: lines that tell of armor, and others
	const head = "A: b\n\n--x\n"
	for _, line := range []string{"content-transfer-encoding:base64", "CONTENT-TRANSFER-ENCODING: BASE64 ", "\tCon tent-Transfer-Encoding :\tbase 64", "\rContent-Transfer-\rEncoding: base64\r"} {
		check(t, []known{{head + line + "\n\nAAA", wrap(1), head + line + "\n\nAA\r\nA\r\n"}, {head + line + "\r\n\r\nAAA\n--", wrap(2), head + line + "\r\n\r\nAAA\r\n\r\n--"}})
	}
	for _, line := range []string{"Content-Transfer-Encoding:\n base64", "Content-Transfer-Encoding: base64;", "Content-Transfer-Encoding: (x) base64", "Content-Transfer-Encoding: 8bit", "XContent-Transfer-Encoding: base64", "Content-Transfer-Encoding:: base64", "Content-Transfer-Encoding base64", "Content-Tran\u017ffer-Encoding: base64", "Content-Transfer-Encoding: base64\x0c", ""} {
		check(t, same(wrap(1), head+line+"\n\nAAA\n--"))
	}
}

func TestWrapWidths(t *testing.T) { // P20.1: each width
	const head, parts = "Content-Transfer-Encoding: base64\r\n\r\n", "A: b\r\n\r\n--x\r\nContent-Transfer-Encoding: base64\r\n\r\n"
	signs := strings.Repeat("abcdefghijklmnopqrstuvwxyz", 9)
	for m := -80; m < 160; m++ {
		var list []string
		for line := range slices.Chunk([]byte(signs), (m+76*2)%76+1) {
			list = append(list, string(line)+"\r\n")
		}
		made := strings.Join(list, "")
		check(t, []known{{head + signs, wrap(m), head + made}, {parts + signs + "\n\n--x--\n", wrap(m), parts + made + "\r\n--x--\n"}})
	}
}

func TestLong(t *testing.T) { // P1: what is as long as it may be is done in no time
	many := strings.Repeat("A: b\n", 200000)
	for _, s := range []string{many + "\n", strings.Repeat("A", 1<<20) + "\n\n", "A: b\n" + strings.Repeat(" c\n", 1<<18) + "\n", "A: b\n\n" + strings.Repeat("--x\nContent-Transfer-Encoding: base64\n\nAA\n", 1<<14), "Content-Transfer-Encoding: base64\n\n" + strings.Repeat("A\n", 1<<20), strings.Repeat("\r", 1<<20) + "\n\n", "A:" + strings.Repeat(" b", 1<<20) + "\n\n"} {
		for kind := api.RwBare; kind <= api.RwWrap; kind++ {
			if made := Apply([]byte(s), api.Rewrite{Kind: kind, M: -1, Text: "x"}); len(made) == 0 {
				t.Errorf("%.20q, %d", s, kind)
			}
		}
	}
}
