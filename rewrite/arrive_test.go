package rewrite

import (
	"bytes"
	"fmt"
	"strings"
	"testing"

	"despatch/api"
	"despatch/letter"
	"despatch/pack"
)

// some gives as many bytes of no order.
func some(roll func(n int) int, n int) []byte {
	made := make([]byte, n)
	for i := range made {
		made[i] = byte(roll(256))
	}
	return made
}

// pick gives one of some texts.
func pick(roll func(n int) int, texts ...string) string { return texts[roll(len(texts))] }

// envelopeOf gives a right envelope.
func envelopeOf(roll func(n int) int) api.Envelope {
	return api.Envelope{
		From:   pick(roll, "a@b", "A.B@c-d.e", "--x@--y", "!#$%&'*+-^_`{|}~@0", strings.Repeat("a.", 300)+"a@b"),
		To:     pick(roll, "c@d", "a@b", "C@d.e.f", "content-transfer-encoding@base64"),
		Id:     pick(roll, "1", "1@x", "A:;,@[]=?./~!", strings.Repeat("=", 200), "--despatch-part--"),
		Thread: pick(roll, "t", "From:", "base64", strings.Repeat("#", 200)),
		Plain:  roll(2) == 0,
		Bundle: some(roll, []int{0, 1, 56, 65, 3000}[roll(5)]),
		Cipher: some(roll, []int{0, 1, 2, 3, 57, 58, 500, 5000}[roll(8)]),
	}
}

// bytesOf gives the bytes of an envelope's mail.
func bytesOf(t *testing.T, e api.Envelope) []byte {
	t.Helper()
	l, code := pack.Write(e)
	if code != api.OK {
		t.Fatal(code)
	}
	b, code := letter.Write(l)
	if code != api.OK {
		t.Fatal(code)
	}
	return b
}

// arrives tells when what is read of a mail isn't an envelope.
func arrives(t *testing.T, b []byte, want api.Envelope, what any) {
	t.Helper()
	l, code := letter.Read(b)
	e, wrong := pack.Read(l)
	if code != api.OK || wrong != api.OK || !bytes.Equal(e.Bundle, want.Bundle) || !bytes.Equal(e.Cipher, want.Cipher) {
		t.Errorf("%+v: %v, %v of %.1000q", what, code, wrong, b)
	}
	told, asked := fmt.Sprint(e.From, e.To, e.Id, e.Thread, e.Plain), fmt.Sprint(want.From, want.To, want.Id, want.Thread, want.Plain)
	if told != asked || pack.Sealed(b) == want.Plain || !bytes.Equal(pack.Beside(e), pack.Beside(want)) {
		t.Errorf("%+v: %.500q of %.1000q", what, told, b)
	}
}

func TestArrivesOnce(t *testing.T) { // P20.2: each thing done once
	for n := range 6 {
		e := envelopeOf(dice(n))
		b := bytesOf(t, e)
		arrives(t, b, e, "nothing")
		for kind := -1; kind < 11; kind++ {
			for at := range 7 {
				for m := range 80 {
					x := api.Rewrite{Kind: kind, N: at, M: m, Text: "a b"}
					arrives(t, Apply(b, x), e, x)
				}
			}
		}
	}
}

func TestArrives(t *testing.T) { // P20.2: whatever is done, one after the other
	changed := 0
	for n := range 1500 {
		roll := dice(n)
		e := envelopeOf(roll)
		first := bytesOf(t, e)
		b := first
		var done []api.Rewrite
		for range 1 + roll(60) { // fewer fields than a head may have
			x := rewriteOfDice(roll)
			x.N, x.M = x.N+roll(50), x.M+roll(1<<16)
			done = append(done, x)
			b = Apply(b, x)
		}
		arrives(t, b, e, done)
		if !bytes.Equal(All(first, done), b) {
			t.Errorf("%+v: All gives %.1000q", done, All(first, done))
		}
		if !bytes.Equal(first, b) {
			changed++
		}
	}
	if changed < 1400 {
		t.Errorf("%d were changed", changed)
	}
}

func TestArrivesFull(t *testing.T) { // P20.2: heads up to their limits, and long ciphers
	e := envelopeOf(dice(3))
	b := bytesOf(t, e)
	l, _ := letter.Read(b)
	long := strings.Repeat("a b\t", 49) + "abcd" // 200 bytes
	for range api.MaxFields - len(l.Fields) {
		b = Apply(b, api.Rewrite{Kind: api.RwAdd, Text: long})
	}
	arrives(t, b, e, "as many fields as may be")
	for n := range 400 {
		b = Apply(b, api.Rewrite{Kind: api.RwFold + n%2*(api.RwOrder-api.RwFold), N: n, M: -1})
	}
	arrives(t, b, e, "folded, and moved")
	for n := range 400 {
		b = Apply(b, api.Rewrite{Kind: api.RwDrop, N: n})
	}
	arrives(t, b, e, "dropped")
	for _, c := range []struct{ size, m int }{{api.MaxCipher, 75}, {api.MaxCipher, 4}, {1<<19 - 1024, 0}} {
		for _, plain := range []bool{false, true} {
			e.Plain, e.Cipher = plain, some(dice(c.size), c.size)
			list := []api.Rewrite{{Kind: api.RwBare}, {Kind: api.RwWrap, M: c.m}, {Kind: api.RwWhole}, {Kind: api.RwFold, N: 5, M: -1}}
			arrives(t, All(bytesOf(t, e), list), e, c)
		}
	}
}

func TestTooLarge(t *testing.T) { // P20.1: short lines may make a mail larger than may be read; they are cut all the same
	e := envelopeOf(dice(3))
	e.Plain, e.Cipher = true, make([]byte, api.MaxCipher)
	b := Apply(bytesOf(t, e), api.Rewrite{Kind: api.RwWrap})
	if n := bytes.Count(b, []byte("A\r\n")); n < api.MaxCipher/3*4 {
		t.Errorf("%d lines", n)
	}
	if _, code := letter.Read(b); code != api.ErrTooLarge {
		t.Error(code)
	}
}
