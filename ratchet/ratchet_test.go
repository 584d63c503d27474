package ratchet

import (
	"bytes"
	"encoding/hex"
	"slices"
	"strings"
	"testing"

	"despatch/api"
	"despatch/curve"
)

// points gives points, some of which share 0 with all, some that are p and more, and one with the bit that doesn't count.
func points() []api.Key {
	p := filled(255)
	p[0], p[31] = 0xed, 0x7f
	above, top := p, row(20)
	above[0]++
	top[31] |= 0x80
	return []api.Key{{}, {1}, {31: 0x80}, p, above, filled(255), {9}, top, row(21), pointOf(row(22))}
}

// numbers gives numbers of own pairs.
func numbers() []api.Key { return []api.Key{{}, filled(255), rising(3), row(23)} }

func TestFirst(t *testing.T) { // P19.1
	for i, own := range numbers() {
		for j, other := range points() {
			root := row(30 + i + j)
			want := api.Session{Own: own, Other: other, Sends: true}
			want.Root, want.Send = otherTurn(root, otherShared(own, other))
			if got := First(root, curve.New(own), other); !same(got, want) {
				t.Errorf("%x, %x: %v, want %v", own, other, got, want)
			}
			// Of the own pair the number alone counts.
			if got := First(root, curve.Pair{Own: own, Public: row(1)}, other); !same(got, want) {
				t.Errorf("%x, %x, with another point: %v", own, other, got)
			}
		}
	}
	for _, root := range []api.Key{{}, filled(255)} {
		want := api.Session{Own: row(1), Other: row(2), Sends: true}
		want.Root, want.Send = otherTurn(root, otherShared(row(1), row(2)))
		if got := First(root, curve.New(row(1)), row(2)); !same(got, want) {
			t.Errorf("the root %x: %v", root, got)
		}
	}
}

func TestSecond(t *testing.T) { // P19.1
	for i, own := range numbers() {
		for _, root := range []api.Key{{}, filled(255), row(30 + i)} {
			want := api.Session{Root: root, Own: own}
			if got := Second(root, curve.Pair{Own: own, Public: row(1)}); !same(got, want) {
				t.Errorf("%x, %x: %v", root, own, got)
			}
		}
	}
}

func TestEncrypt(t *testing.T) { // P19.2: of each right session that sends, as other programs have it
	for i, s := range sessions() {
		if !s.Sends || s.Sent == last {
			continue
		}
		for _, beside := range [][]byte{nil, []byte("beside"), bytes.Repeat([]byte{7}, 300)} {
			for _, plain := range [][]byte{nil, []byte("plain"), bytes.Repeat([]byte{9}, 1000)} {
				was := clone(s)
				want := clone(s)
				var message api.Key
				want.Send, message = otherStep(s.Send)
				want.Sent++
				mail := mailOf(api.Header{Chain: pointOf(s.Own), Previous: s.Previous, Number: s.Sent}, message, beside, plain)
				next, sealed, code := Encrypt(s, beside, plain)
				if code != api.OK || !same(next, want) || !bytes.Equal(sealed, mail) {
					t.Errorf("%d: %v, %x, %v", i, next, sealed, code)
				}
				if len(sealed) != HeaderBytes+len(plain)+api.TagBytes {
					t.Errorf("%d: %d bytes of %d", i, len(sealed), len(plain))
				}
				if !same(s, was) {
					t.Errorf("%d: the session that was handed in was changed", i)
				}
			}
		}
	}
}

func TestEncryptErrors(t *testing.T) { // P19.2
	for i, s := range sessions() {
		want := api.OK
		if !s.Sends {
			want = api.ErrNoRoute // first, though Sent may be the last number
		} else if s.Sent == last {
			want = api.ErrFar
		}
		next, sealed, code := Encrypt(s, []byte("beside"), []byte("plain"))
		if code != want {
			t.Errorf("%d: %v, want %v", i, code, want)
		}
		if code != api.OK && (!same(next, s) || len(sealed) > 0) {
			t.Errorf("%d: %v, %x", i, next, sealed)
		}
	}
}

func TestEncryptLast(t *testing.T) { // P19.2: the last mail of a chain has the number 2^31 - 2
	s := api.Session{Sends: true, Send: row(1), Own: row(2), Other: row(3), Sent: last - 1, Previous: last}
	next, sealed, code := Encrypt(s, nil, []byte("last"))
	if code != api.OK || next.Sent != last {
		t.Fatalf("%d, %v", next.Sent, code)
	}
	if h, _, code := Head(sealed); code != api.OK || h.Number != last-1 || h.Previous != last {
		t.Errorf("%v, %v", h, code)
	}
	if b, code := Encode(next); code != api.OK || len(b) != 177 {
		t.Errorf("%d, %v", len(b), code)
	}
	if again, sealed, code := Encrypt(next, nil, nil); code != api.ErrFar || !same(again, next) || len(sealed) > 0 {
		t.Errorf("%v, %x, %v", again, sealed, code)
	}
}

func TestEncryptOnce(t *testing.T) { // P19.2: a key each
	s := First(row(1), curve.New(row(2)), row(3))
	seen := map[string]int{}
	for i := range 50 {
		next, sealed, code := Encrypt(s, nil, []byte("the same plain bytes"))
		if code != api.OK {
			t.Fatal(code)
		}
		h, rest, code := Head(sealed)
		if code != api.OK || h != (api.Header{Chain: pointOf(row(2)), Number: i}) {
			t.Errorf("%d: %v, %v", i, h, code)
		}
		if j, found := seen[string(rest[:20])]; found {
			t.Errorf("%d and %d are enciphered alike", i, j)
		}
		seen[string(rest[:20])] = i
		s = next
	}
}

func TestEncryptMemory(t *testing.T) { // P19.2, P2
	for i, s := range sessions() {
		room := bytes.Repeat([]byte{5}, 100)
		was := clone(s)
		first, sealed, code := Encrypt(s, room[10:20], room[30:50])
		kept, keptSealed := clone(first), bytes.Clone(sealed)
		second, sealedAgain, codeAgain := Encrypt(s, room[10:20], room[30:50])
		if !same(first, second) || !bytes.Equal(sealed, sealedAgain) || code != codeAgain {
			t.Errorf("%d: another answer at the second call", i)
		}
		if !bytes.Equal(room, bytes.Repeat([]byte{5}, 100)) {
			t.Errorf("%d: what was handed in was changed", i)
		}
		clear(room)
		scribble(second)
		clear(sealedAgain[:cap(sealedAgain)])
		if !same(s, was) {
			t.Errorf("%d: the answer shares the list that was handed in", i)
		}
		if !same(first, kept) || !bytes.Equal(sealed, keptSealed) {
			t.Errorf("%d: two answers share memory", i)
		}
	}
}

// talk is two sessions, whose bytes are held against those of another program.
type talk struct {
	t    *testing.T
	a, b api.Session
	all  []byte // all mails
}

// encrypt gives the next mail of one of the two.
func (k *talk) encrypt(s *api.Session, beside, plain string) []byte {
	k.t.Helper()
	next, sealed, code := Encrypt(*s, []byte(beside), []byte(plain))
	if code != api.OK {
		k.t.Fatal(code)
	}
	*s = next
	k.all = append(k.all, sealed...)
	return sealed
}

// decrypt takes a mail, and then looks at both.
func (k *talk) decrypt(s *api.Session, beside string, sealed []byte, fresh int, want, a, b string) {
	k.t.Helper()
	next, plain, code := decrypt(k.t, *s, []byte(beside), sealed, rising(fresh))
	if code != api.OK || string(plain) != want {
		k.t.Fatalf("%q, %v", plain, code)
	}
	*s = next
	first, _ := Encode(k.a)
	second, _ := Encode(k.b)
	if sum(first) != a || sum(second) != b {
		k.t.Errorf("%q: %x, %x", want, first, second)
	}
}

func TestKnown(t *testing.T) { // P19.1 to P19.5: numbers made apart from the program
	own, other := curve.New(rising(40)), curve.New(rising(90))
	k := &talk{t: t, a: First(rising(1), own, other.Public), b: Second(rising(1), other)}
	if b, _ := Encode(k.a); hex.EncodeToString(b) != "011294f692ce99c2a98004a3d323c393524df2bdcf5baf1263c2de9f4df75d226528292a2b2c2d2e2f303132333435363738393a3b3c3d3e3f404142434445464715d7b75064fdd1ca3b6887d75b37d6afc1fd2573ed9ddfef38d67dc3cdcaf91b4abebff0f95f35789951ef87674e19e22211f69f5f38457553606c7cf7dd20eb000000000000000000000000000000000000000000000000000000000000000000000000000000000000000000000000" {
		t.Errorf("First: %x", b)
	}
	if b, _ := Encode(k.b); hex.EncodeToString(b) != "00"+"0102030405060708090a0b0c0d0e0f101112131415161718191a1b1c1d1e1f20"+"5a5b5c5d5e5f606162636465666768696a6b6c6d6e6f70717273747576777879"+strings.Repeat("00", 112) {
		t.Errorf("Second: %x", b)
	}
	m0, m1, m2 := k.encrypt(&k.a, "beside", "one"), k.encrypt(&k.a, "beside", ""), k.encrypt(&k.a, "beside", "three")
	if hex.EncodeToString(m0) != "492f1cb85847ffc7bb427865f64c5e8041ec0499b37a1da945a15b4102af027e00000000000000000ff6935097d500e65e43aff2c9784e11a763db46113b7415fda3a56e1d4118f1ba10a4" {
		t.Errorf("the mail 0: %x", m0)
	}
	if hex.EncodeToString(m1) != "492f1cb85847ffc7bb427865f64c5e8041ec0499b37a1da945a15b4102af027e00000000000000012bab63852f8aeb5b2bf3804d4a04eff67683a68bf4b2cd631107f74e52333d70" {
		t.Errorf("the mail 1: %x", m1)
	}
	a := "4e027e2ddcc4123327d4538783e5f90f4819ad16cf86e9d23230093ab18985d1"
	k.decrypt(&k.b, "beside", m2, 130, "three", a, "6fbdce7d475b86d14706e192e5bb433cc6a6343881f01bc73d339290ac4b844c")
	r0, r1 := k.encrypt(&k.b, "", "back"), k.encrypt(&k.b, "", "and again")
	a, b := "c878a7cbd722a6bcc01856ee98abbd286db506748140330cf80ac6dfdb6114a6", "0f469af39f302872175e2301705c964e9e0ba5202dd9285322c02f0113f96dbf"
	k.decrypt(&k.a, "", r1, 170, "and again", a, b)
	_, n1 := k.encrypt(&k.a, "x", "new"), k.encrypt(&k.a, "x", "newer")
	if hex.EncodeToString(n1) != "96bef4743ba8e3ed19d265e73e0d2c71136ab5b4b994afa882d1f82fd38a4b010000000300000001b0599bf282eaef39ab8335d678695bd8a98729a6b4c17e66eacfd10065d3fae110daf9682e" {
		t.Errorf("the mail 1 of the new chain: %x", n1)
	}
	a, b = "fec249d4b55934578ed407c24a8402c2247cf4bd355e4b687b60743b87ff3e61", "4e7928528dcb4a2995236505dae4c7817c11ba4535b25ecf736847be94969b95"
	k.decrypt(&k.b, "x", n1, 210, "newer", a, b)
	b = "7afdd60ea0e5845b750309cfbf95dc925dd50b9fc7d6a6a444e0ded4bbb76165"
	k.decrypt(&k.b, "beside", m0, 0, "one", a, b)
	a = "6824698ab7c719ad29b634b0544326a0a540795a9aefdaac6620de4c9566ffb0"
	k.decrypt(&k.a, "", r0, 0, "back", a, b)
	var list [][]byte
	for i := range 5 {
		list = append(list, k.encrypt(&k.b, "", string(make([]byte, i))))
	}
	a, b = "802b523c2da2175acef46f84a9a7d1a6a5e1cc8a58df6e096f8039e2b9ed6269", "b9eef882c0d49d8ffd23bd0d2581aac2dfa96b471e1436a41b1db60ba9a00065"
	k.decrypt(&k.a, "", list[4], 250, "\x00\x00\x00\x00", a, b)
	a = "60ddfbfcab53499aa9cf2782f8fb3639a0b0c10210a66329cc6ad0368f1e72bd"
	k.decrypt(&k.a, "", list[1], 0, "\x00", a, b)
	if sum(k.all) != "c50e87e364e39ba1964c6cd2a2bf828da9eb6a46238d1b5c52f5eafe398d7a14" {
		t.Errorf("the mails: %x", k.all)
	}
}

func TestHead(t *testing.T) { // P19.3
	for _, previous := range []int{0, 1, 255, 256, 65536, 1 << 24, 0x01020304, last - 1, last} {
		for _, number := range []int{0, 1, 255, 256, 65536, 1 << 24, 0x05060708, last - 1, last} {
			for _, chain := range points() {
				want := api.Header{Chain: chain, Previous: previous, Number: number}
				b := mailOf(want, row(1), nil, []byte("plain"))
				h, rest, code := Head(b)
				if code != api.OK || h != want || !bytes.Equal(rest, b[40:]) {
					t.Errorf("%v: %v, %x, %v", want, h, rest, code)
				}
				if h, rest, code = Head(b[:40]); code != api.OK || h != want || len(rest) > 0 {
					t.Errorf("%v without more: %v, %x, %v", want, h, rest, code)
				}
			}
		}
	}
	known := unhex(t, "000102030405060708090a0b0c0d0e0f101112131415161718191a1b1c1d1e1f"+"0000010200030004"+"ff00")
	if h, rest, code := Head(known); code != api.OK || h != (api.Header{Chain: rising(0), Previous: 258, Number: 0x30004}) || string(rest) != "\xff\x00" {
		t.Errorf("%v, %x, %v", h, rest, code)
	}
}

func TestHeadForm(t *testing.T) { // P19.3
	if HeaderBytes != 40 {
		t.Errorf("HeaderBytes: %d", HeaderBytes)
	}
	whole := mailOf(api.Header{Chain: row(1), Previous: 3, Number: 4}, row(1), nil, nil)
	wrong := [][]byte{nil, {}}
	for n := range 40 {
		wrong = append(wrong, whole[:n])
	}
	for _, at := range []int{32, 36} {
		for _, b := range []byte{0x80, 0x81, 0xff} {
			turned := bytes.Clone(whole)
			turned[at] = b
			wrong = append(wrong, turned, turned[:40])
		}
	}
	wrong = append(wrong, bytes.Repeat([]byte{255}, 40), bytes.Repeat([]byte{255}, 1000))
	for _, b := range wrong {
		if h, rest, code := Head(b); code != api.ErrForm || h != (api.Header{}) || len(rest) > 0 {
			t.Errorf("%x: %v, %x, %v", b, h, rest, code)
		}
	}
}

func TestHeadMemory(t *testing.T) { // P19.3, P2
	b := mailOf(api.Header{Chain: row(1), Previous: 3, Number: 4}, row(1), nil, []byte("plain"))
	was := bytes.Clone(b)
	_, first, _ := Head(b)
	_, second, _ := Head(b)
	clear(second[:cap(second)])
	if !bytes.Equal(b, was) || !bytes.Equal(first, was[40:]) {
		t.Error("an answer shares memory")
	}
	if !slices.Equal(b[:40], was[:40]) {
		t.Error("what was handed in was changed")
	}
}
