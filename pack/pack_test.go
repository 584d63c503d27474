package pack

import (
	"bytes"
	"fmt"
	"reflect"
	"regexp"
	"slices"
	"strings"
	"testing"

	"despatch/api"
	"despatch/armor"
	"despatch/letter"
	"despatch/mime"
	"despatch/quoted"
	"despatch/token"
)

// dice gives throws: each is one of the first n numbers.
func dice(first int) func(n int) int {
	x := uint32(first)*2654435761 + 12345
	return func(n int) int {
		x = x*1664525 + 1013904223
		return int(x>>8) % n
	}
}

// known gives a right envelope.
func known() api.Envelope {
	return api.Envelope{From: "ann@x.org", To: "bob@y", Id: "1@x", Thread: "th", Bundle: []byte("fo"), Cipher: []byte{1, 2, 3}}
}

// with gives a right envelope in which something is changed.
func with(change func(e *api.Envelope)) api.Envelope {
	e := known()
	change(&e)
	return e
}

// mailOf gives the mail of a text, which must be one.
func mailOf(s string) api.Letter {
	l, code := letter.Read([]byte(s))
	if code != api.OK {
		panic(fmt.Sprintf("%.200q: %v", s, code))
	}
	return l
}

// Fields of a right mail, and one of an enciphered one with its body.
const (
	heads  = "From: a@b\nTo: c@d\nMessage-ID: <1>\nX-Thread: <t>\n"
	sealed = "Content-Type: multipart/encrypted; boundary=x; protocol=application/x-despatch\n\n"
	first  = "--x\nContent-Type: application/x-despatch\n\nVersion: 1\n"
	second = "--x\nContent-Type: application/octet-stream\nContent-Transfer-Encoding: base64\n\nAQID\n"
	end    = "--x--\n"
)

// alike tells whether two envelopes are one: a list without elements and none are.
func alike(a, b api.Envelope) bool {
	same := bytes.Equal(a.Bundle, b.Bundle) && bytes.Equal(a.Cipher, b.Cipher)
	a.Bundle, a.Cipher, b.Bundle, b.Cipher = nil, nil, nil, nil
	return same && reflect.DeepEqual(a, b)
}

// alikeMails tells whether two mails are one.
func alikeMails(a, b api.Letter) bool {
	return slices.Equal(a.Fields, b.Fields) && bytes.Equal(a.Body, b.Body)
}

// none tells whether an envelope is the zero value.
func none(e api.Envelope) bool { return reflect.DeepEqual(e, api.Envelope{}) }

// noMail tells whether a mail is the zero value.
func noMail(l api.Letter) bool { return l.Fields == nil && l.Body == nil }

// tell gives an envelope as a text, of its lists the first bytes.
func tell(e api.Envelope) string {
	return fmt.Sprintf("{%.100q %.100q %.250q %.250q %t %.60q (%d) %.60q (%d)}", e.From, e.To, e.Id, e.Thread, e.Plain, e.Bundle, len(e.Bundle), e.Cipher, len(e.Cipher))
}

func TestWriteKnown(t *testing.T) { // P13.1: the mail, to the letter
	const lineA = "AAAAAAAAAAAAAAAAAAAAAAAAAAAAAAAAAAAAAAAAAAAAAAAAAAAAAAAAAAAAAAAAAAAAAAAAAAAA\r\n"
	const ahead = "From: ann@x.org\r\nTo: bob@y\r\nMessage-ID: <1@x>\r\nX-Thread: <th>\r\n"
	const plain = "Content-Type: text/plain\r\nContent-Transfer-Encoding: base64\r\n\r\n"
	const begin = "Content-Type: multipart/encrypted; boundary=despatch-part;\r\n protocol=application/x-despatch\r\n\r\n--despatch-part\r\nContent-Type: application/x-despatch\r\nContent-Transfer-Encoding: 8bit\r\n\r\nVersion: 1\r\n--despatch-part\r\nContent-Type: application/octet-stream\r\nContent-Transfer-Encoding: base64\r\n\r\n"
	const end = "\r\n--despatch-part--\r\n"
	for _, c := range []struct {
		turn func(e *api.Envelope)
		want string
	}{
		{func(e *api.Envelope) {}, ahead + "X-Keys: Zm8=\r\n" + begin + "AQID\r\n" + end},
		{func(e *api.Envelope) { e.Bundle = nil }, ahead + begin + "AQID\r\n" + end},
		{func(e *api.Envelope) { e.Bundle = []byte{} }, ahead + begin + "AQID\r\n" + end},
		{func(e *api.Envelope) { e.Bundle, e.Cipher = []byte{0}, nil }, ahead + "X-Keys: AA==\r\n" + begin + end},
		{func(e *api.Envelope) { e.Bundle, e.Cipher = nil, make([]byte, 58) }, ahead + begin + lineA + "AA==\r\n" + end},
		{func(e *api.Envelope) { e.Plain = true }, ahead + "X-Keys: Zm8=\r\n" + plain + "AQID\r\n"},
		{func(e *api.Envelope) { e.Plain, e.Bundle, e.Cipher = true, nil, nil }, ahead + plain},
		{func(e *api.Envelope) { e.Plain, e.Bundle, e.Cipher = true, nil, make([]byte, 58) }, ahead + plain + lineA + "AA==\r\n"},
		{func(e *api.Envelope) {
			e.From, e.To, e.Id, e.Thread = "A.B@c-d.e", "A.B@c-d.e", "A:;,@[]=?./~!", "#"
		}, strings.NewReplacer("ann@x.org", "A.B@c-d.e", "bob@y", "A.B@c-d.e", "1@x", "A:;,@[]=?./~!", "th>", "#>").Replace(ahead) + "X-Keys: Zm8=\r\n" + begin + "AQID\r\n" + end},
	} {
		e := with(c.turn)
		l, code := Write(e)
		b, _ := letter.Write(l)
		if code != api.OK || string(b) != c.want {
			t.Errorf("%s: %q, %v, want %q", tell(e), b, code, c.want)
		}
	}
}

func TestWriteLongKeys(t *testing.T) { // P13.1: X-Keys is one text, folded nowhere
	bundle := bytes.Repeat([]byte("keys"), 700)
	l, code := Write(with(func(e *api.Envelope) { e.Bundle = bundle }))
	if value, _ := letter.Get(l, "X-Keys"); code != api.OK || value != armor.Encode(bundle) {
		t.Errorf("%.100q, %v", value, code)
	}
}

// places are an envelope's texts, by their names.
func places() map[string]func(e *api.Envelope) *string {
	return map[string]func(e *api.Envelope) *string{
		"From":   func(e *api.Envelope) *string { return &e.From },
		"To":     func(e *api.Envelope) *string { return &e.To },
		"Id":     func(e *api.Envelope) *string { return &e.Id },
		"Thread": func(e *api.Envelope) *string { return &e.Thread },
	}
}

// checkWrite tells of an error that Write should have given, or of one that it shouldn't.
func checkWrite(t *testing.T, e api.Envelope, want api.Errno) {
	t.Helper()
	l, code := Write(e)
	if code != want || code != api.OK && !noMail(l) {
		t.Errorf("%s: %v, want %v", tell(e), code, want)
	}
	if code != api.OK {
		return
	}
	if back, code := Read(l); code != api.OK || !alike(back, e) {
		t.Errorf("%s: read of it is %s, %v", tell(e), tell(back), code)
	}
}

func TestWriteAddresses(t *testing.T) { // P13.1, P13.4
	long := strings.Repeat("a.", 100) + "a"
	right := []string{"a@b", "A@b", "a.b.c@d.e", "!#$%&'*+-^_`{|}~@0", long + "@b", "a@" + long}
	wrong := []string{"", "a", "@", "a@", "@b", "a@B", "a@b.C", "a@b@c", "a.@b", ".a@b", "a..b@c", "a@b.", "a@.b", " a@b", "a@b ", "a @b", "a@ b", "a@b\t", "<a@b>", "Ann <a@b>", "a@b (c)", "(c)a@b", "a@b()", "(", ")", "\"a\"@b", "a@b\n", "a@b\r\n", "\na@b", "a,b@c", "a@b,c@d", "a@b;", "a@[1]", "a:b@c", "a/b@c", "a\\b@c", "a@\u00e9", "a@b\x00", "a\x7f@b", strings.Repeat("(", 10) + "a@b"}
	for name, of := range places() {
		if name == "Id" || name == "Thread" {
			continue
		}
		for i, s := range slices.Concat(right, wrong) {
			want := api.OK
			if i >= len(right) {
				want = api.ErrForm
			}
			checkWrite(t, with(func(e *api.Envelope) { *of(e) = s }), want)
			checkWrite(t, with(func(e *api.Envelope) { *of(e), e.Plain = s, true }), want)
		}
	}
}

// idForm is an id that may be.
var idForm = regexp.MustCompile(`\A[!#-'*-;=?-\[\]-~]{1,200}\z`)

func TestWriteIds(t *testing.T) { // P13.1, P13.4: each byte at each place, and the lengths
	var ids []string
	for i := range 256 {
		c := string([]byte{byte(i)})
		ids = append(ids, c, c+"a", "a"+c, "a"+c+"b", strings.Repeat("a", 199)+c, strings.Repeat("a", 200)+c, c+c)
	}
	ids = append(ids, "", strings.Repeat("ab", 100), strings.Repeat("a", 201), strings.Repeat("a", 1<<20), "a><b", "a> <b", "<a>", "(x)a", "a(x)", "\"a\"", "\"<\"", "\u00e9", "\u2028", "\uff1c", "a\r\n b", "a\\b")
	may := 0
	for _, name := range []string{"Id", "Thread"} {
		of := places()[name]
		for i, s := range ids {
			want := api.ErrForm
			if idForm.MatchString(s) {
				want, may = api.OK, may+1
			}
			checkWrite(t, with(func(e *api.Envelope) { *of(e), e.Plain = s, i%2 == 0 }), want)
		}
	}
	if may != 2*(88*6+1) { // of each of 94 printed signs but six: all but that of 201 bytes
		t.Errorf("%d", may)
	}
}

func TestWriteLimits(t *testing.T) { // P13.1: how much may be, and ErrTooLarge ahead of ErrForm
	most, over := make([]byte, api.MaxCipher), make([]byte, api.MaxCipher+1)
	for _, plain := range []bool{false, true} {
		for _, c := range []struct {
			bundle, cipher []byte
			want           api.Errno
		}{
			{most[:3000], most, api.OK},
			{most[:2999], most[:1], api.OK},
			{most[:3001], nil, api.ErrTooLarge},
			{most[:3001], over, api.ErrTooLarge},
			{nil, over, api.ErrTooLarge},
			{most[:3000], over, api.ErrTooLarge},
			{over, nil, api.ErrTooLarge},
		} {
			e := with(func(e *api.Envelope) { e.Plain, e.Bundle, e.Cipher = plain, c.bundle, c.cipher })
			checkWrite(t, e, c.want)
			for _, of := range places() {
				wrong := e
				*of(&wrong) = "a b"
				if c.want == api.OK {
					checkWrite(t, wrong, api.ErrForm)
				} else {
					checkWrite(t, wrong, api.ErrTooLarge)
				}
			}
		}
	}
	checkWrite(t, api.Envelope{}, api.ErrForm)
	checkWrite(t, api.Envelope{Plain: true}, api.ErrForm)
}

func TestReadKnown(t *testing.T) { // P13.2: mails as others write them, too
	told := func(plain bool, bundle, cipher string) api.Envelope {
		return api.Envelope{From: "a@b", To: "c@d", Id: "1", Thread: "t", Plain: plain, Bundle: []byte(bundle), Cipher: []byte(cipher)}
	}
	const enciphered = heads + sealed + first + second + end
	replaced := func(olds ...string) string { return strings.NewReplacer(olds...).Replace(enciphered) }
	for s, want := range map[string]api.Envelope{
		heads + "\nhello": told(true, "", "hello"),
		heads + "\n":      told(true, "", ""),
		heads + "Content-Type: Text/PLAIN (x); charset=utf-8; charset=\"\"\n\n\x00\xff\r\n":                         told(true, "", "\x00\xff\r\n"),
		heads + "Content-Transfer-Encoding: BASE64\n\n A A\nEC":                                                     told(true, "", "\x00\x01\x02"),
		heads + "Content-Type: text/plain\nContent-Transfer-Encoding: quoted-printable\n\na=3Db=\nc \n":             told(true, "", "a=bc\r\n"),
		heads + "Content-Transfer-Encoding: 7bit\n\na=3Db":                                                          told(true, "", "a=3Db"),
		heads + "Content-Type: text/plain; boundary=x; protocol=application/x-despatch\n\n" + first + second + end:  told(true, "", first+second+end),
		heads + "Content-Type: text/plain\n" + sealed + first + second + end:                                        told(true, "", first+second+end),
		"to: <c@D>\nX-THREAD: (x)\t<t> (y)\nX-Other: z\nFROM: \"A (\" <\ta@B > \nmessage-id: <1>\n\nx":              told(true, "", "x"),
		"From: a@b\nFrom: x\nTo: c@d\nTo: y@z\nMessage-ID: <1>\nMessage-ID: <2> <3>\nX-Thread: <t>\nX-Thread:\n\nx": told(true, "", "x"),
		heads + "X-Keys: Zm8=\nX-Keys: !\n\nx":                                                                      told(true, "fo", "x"),
		heads + "x-keys:  Zm\n\t8\n =\n\nx":                                                                         told(true, "fo", "x"),
		heads + "X-Keys:\n\nx":                                                                                      told(true, "", "x"),
		enciphered:                                                                                                  told(false, "", "\x01\x02\x03"),
		"X-Keys: AAAA\n" + enciphered:                                                                               told(false, "\x00\x00\x00", "\x01\x02\x03"),
		replaced("\n", "\r\n"):                                                                                      told(false, "", "\x01\x02\x03"),
		replaced("AQID", "A Q\n\nI\tD"):                                                                             told(false, "", "\x01\x02\x03"),
		replaced("AQID", ""):                                                                                        told(false, "", ""),
		replaced("base64", "8bit"):                                                                                  told(false, "", "AQID"),
		replaced("base64", "quoted-printable", "AQID", "=41Q"):                                                      told(false, "", "AQ"),
		replaced("Version: 1", "Version: 1.5\nand more"):                                                            told(false, "", "\x01\x02\x03"),
		replaced("Version: 1", "Version: 10"):                                                                       told(false, "", "\x01\x02\x03"),
		replaced("application/x-despatch\n\nVersion: 1", "Application/X-Despatch\nContent-Transfer-Encoding: base64\n\nVmVyc2lvbjogMQ=="):                                             told(false, "", "\x01\x02\x03"),
		replaced("application/octet-stream", "application/octet-stream; name=x"):                                                                                                      told(false, "", "\x01\x02\x03"),
		replaced("multipart/encrypted; boundary=x; protocol=application/x-despatch", "MULTIPART/Encrypted (x); a=b; PROTOCOL=\"application/x-despatch\"; boundary=\"x\"; protocol=y"): told(false, "", "\x01\x02\x03"),
		replaced("\n\n--x\n", "\n\nahead\n--x \n") + "behind":                                                                                                                         told(false, "", "\x01\x02\x03"),
	} {
		if got, code := Read(mailOf(s)); code != api.OK || !alike(got, want) {
			t.Errorf("%q: %s, %v, want %s", s, tell(got), code, tell(want))
		}
		if got := Sealed([]byte(s)); got == want.Plain {
			t.Errorf("%q: sealed %t", s, got)
		}
	}
}

// wrongFields are heads of right mails in which a field is wrong, or isn't there.
func wrongFields() []string {
	var all []string
	set := func(name string, values ...string) {
		lines := strings.SplitAfter(heads, "\n")
		at := slices.IndexFunc(lines, func(line string) bool { return strings.HasPrefix(line, name) })
		all = append(all, strings.Join(slices.Delete(slices.Clone(lines), at, at+1), ""))
		for _, value := range values {
			line := []string{name + ": " + value + "\n"}
			all = append(all, strings.Join(slices.Concat(lines[:at], line, lines[at+1:]), ""))
			all = append(all, strings.Join(slices.Concat(line, lines), "")) // the first one is asked
		}
	}
	deep := strings.Repeat("(", 10) + strings.Repeat(")", 10)
	addresses := []string{"", "a", "a@", "@b", "a@b,", "a@b, c@d", "a@b>", "<a@b", "<>", "a b@c", "(a@b)", "\"a\"@b", "a@b (", "a@b)", "a@b \"", deep + "a@b"}
	set("From", addresses...)
	set("To", addresses...)
	ids := []string{"", "1", "<>", "<1", "1>", "<1> <2>", "<1><1>", "<1> 2", "<a b>", "(<1>)", "<1> (", "<1>)", "<a(b)>", "<\"a\">", "<a\"b\">", "<\"(\">", "<a\\b>", "<\\\\>", "<" + strings.Repeat("a", 201) + ">", deep + "<1>"}
	set("Message-ID", ids...)
	set("X-Thread", ids...)
	for _, keys := range []string{"A", "AA", "AAA", "AA=", "AB==", "AAB=", "=", "====", "AAAA=", "AA==AA==", "A-_A", "<AAAA>", "AAAA (x)", "\"AAAA\"", "AAAA,AAAA", armor.Encode(make([]byte, 3001)), armor.Encode(make([]byte, 6000))} {
		all = append(all, heads+"X-Keys: "+keys+"\n", "x-KEYS: "+keys+"\nX-Keys: AAAA\n"+heads)
	}
	return all
}

func TestReadFields(t *testing.T) { // P13.2: ErrForm, whatever the part is
	for _, head := range wrongFields() {
		for _, rest := range []string{"\nhello", sealed + first + second + end, sealed + end, "Content-Type: a/b\n\n", "Content-Type: " + strings.Repeat("(", 10) + "\n\n", sealed + "--x\n" + strings.Repeat("A: b\n", 201) + "\n" + end} {
			if e, code := Read(mailOf(head + rest)); code != api.ErrForm || !none(e) {
				t.Errorf("%q: %s, %v", head+rest, tell(e), code)
			}
		}
		if Sealed([]byte(head + sealed + first + second + end)) {
			t.Errorf("%q: sealed", head)
		}
	}
	if e, code := Read(api.Letter{}); code != api.ErrForm || !none(e) {
		t.Errorf("%s, %v", tell(e), code)
	}
	for _, value := range []string{"a@b\x00", "\u00e9@b", "a@\xff", "a@b\n"} { // what no head could have
		l := mailOf(heads + "\n")
		l.Fields[0].Value = value
		if e, code := Read(l); code != api.ErrForm || !none(e) {
			t.Errorf("%q: %s, %v", value, tell(e), code)
		}
	}
}

func TestReadLimits(t *testing.T) { // P13.2: of ids, and of keys
	id := strings.Repeat("a", 200)
	keys := bytes.Repeat([]byte("x"), 3000)
	l := mailOf("From: a@b\nTo: c@d\nMessage-ID: <" + id + ">\nX-Thread: <" + id + ">\nX-Keys: " + armor.Encode(keys) + "\n\n")
	want := api.Envelope{From: "a@b", To: "c@d", Id: id, Thread: id, Plain: true, Bundle: keys}
	if e, code := Read(l); code != api.OK || !alike(e, want) {
		t.Errorf("%s, %v", tell(e), code)
	}
	// Each byte within an id.
	for i := range 256 {
		s := string([]byte{'a', byte(i), 'b'})
		for _, name := range []string{"Message-ID", "X-Thread"} {
			want := api.ErrForm
			if idForm.MatchString(s) {
				want = api.OK
			}
			e, code := Read(letter.Set(mailOf(heads+"\n"), name, "<"+s+">"))
			if code != want || code != api.OK && !none(e) || code == api.OK && e.Id != s && e.Thread != s {
				t.Errorf("%s %q: %s, %v, want %v", name, s, tell(e), code, want)
			}
		}
	}
}

func TestReadPart(t *testing.T) { // P13.2: layer 12's error, then ErrForm of parts that are none of the kinds told
	const enciphered = heads + sealed + first + second + end
	many := strings.Repeat("A: b\n", 201)
	for s, want := range map[string]api.Errno{
		heads + "Content-Type: x\n\n":                                                                     api.ErrForm,
		heads + "Content-Type: " + strings.Repeat("(", 10) + "\n\n":                                       api.ErrDeep,
		heads + "Content-Transfer-Encoding: x\n\n":                                                        api.ErrForm,
		heads + "Content-Transfer-Encoding: base64\n\nA":                                                  api.ErrForm,
		heads + "Content-Transfer-Encoding: quoted-printable\n\n=A":                                       api.ErrForm,
		heads + "Content-Type: multipart/mixed; boundary=x\n\n--x\n" + many + "\n--x--":                   api.ErrTooLarge,
		heads + sealed + first + "--x\n" + many + "\n--x--":                                               api.ErrTooLarge,
		heads + sealed + first + second + "--x\nContent-Type: " + strings.Repeat("(", 10) + "\n\n--x--":   api.ErrForm, // the third one has no end of its head
		heads + sealed + first + second + "--x\nContent-Type: " + strings.Repeat("(", 10) + "\n\n\n--x--": api.ErrDeep,
		heads + "Content-Type: text/html\n\nx":                                                            api.ErrForm,
		heads + "Content-Type: text/plainer\n\nx":                                                         api.ErrForm,
		heads + "Content-Type: application/octet-stream\nContent-Transfer-Encoding: base64\n\nAQID":       api.ErrForm,
		heads + "Content-Type: application/x-despatch\n\nVersion: 1":                                      api.ErrForm,
	} {
		if e, code := Read(mailOf(s)); code != want || !none(e) {
			t.Errorf("%.300q: %s, %v, want %v", s, tell(e), code, want)
		}
	}
	for _, olds := range [][]string{
		{"multipart/encrypted", "multipart/mixed"},
		{"multipart/encrypted", "multipart/encrypte"},
		{"multipart/encrypted", "application/encrypted"},
		{"multipart/encrypted; boundary=x", "multipart/encrypted"},
		{"; protocol=application/x-despatch", ""},
		{"protocol=application/x-despatch", "protocol=\"\""},
		{"protocol=application/x-despatch", "protocol=application/X-despatch"},
		{"protocol=application/x-despatch", "protocol=application/x-despatcher"},
		{"protocol=application/x-despatch", "protocol=\" application/x-despatch\""},
		{"protocol=application/x-despatch", "protocol=a; protocol=application/x-despatch"},
		{"protocol=", "protocols="},
		{first, ""},
		{second, ""},
		{first, first + first},
		{second, second + second},
		{first, second + first},
		{first, first + "--x\n\nx\n"},
		{first, second, second, first},
		{first, second},
		{second, first},
		{"application/x-despatch\n", "application/octet-stream\n"},
		{"application/x-despatch\n", "text/plain\n"},
		{"application/x-despatch\n", "application/x-despatches\n"},
		{"application/octet-stream", "text/plain"},
		{"application/octet-stream", "application/octet-streams"},
		{"application/octet-stream", "application/x-despatch"},
		{"Version: 1", ""},
		{"Version: 1", "Version: "},
		{"Version: 1", "version: 1"},
		{"Version: 1", "Version:  1"},
		{"Version: 1", "Version: 2"},
		{"Version: 1", " Version: 1"},
		{"Version: 1", "\nVersion: 1"},
		{"Version: 1", "Version:1"},
		{"AQID", "AQI"},
		{end, ""},
	} {
		s := strings.NewReplacer(olds...).Replace(enciphered)
		if e, code := Read(mailOf(s)); s == enciphered || code != api.ErrForm || !none(e) {
			t.Errorf("%q: %s, %v", s, tell(e), code)
		}
		if Sealed([]byte(s)) {
			t.Errorf("%q: sealed", s)
		}
	}
}

func TestReadTooLarge(t *testing.T) { // P13.2: what is held, however it is written, and behind all else
	part := func(kind, encoding string, size int) string {
		body := bytes.Repeat([]byte("x"), size)
		switch encoding {
		case "base64":
			body = armor.Lines(body)
		case "quoted-printable":
			body = quoted.Encode(body)
		}
		return "Content-Type: " + kind + "\nContent-Transfer-Encoding: " + encoding + "\n\n" + string(body)
	}
	for _, encoding := range []string{"8bit", "base64", "quoted-printable"} {
		for _, c := range []struct {
			size int
			want api.Errno
		}{{api.MaxCipher - 1, api.OK}, {api.MaxCipher, api.OK}, {api.MaxCipher + 1, api.ErrTooLarge}, {api.MaxCipher + 1<<18, api.ErrTooLarge}} {
			for _, s := range []string{
				heads + part("text/plain", encoding, c.size),
				heads + sealed + first + "--x\n" + part("application/octet-stream", encoding, c.size) + "\n" + end,
			} {
				e, code := Read(mailOf(s))
				if code != c.want || code != api.OK && !none(e) || code == api.OK && len(e.Cipher) != c.size {
					t.Errorf("%.300q: %s, %v", s, tell(e), code)
				}
				if got := Sealed([]byte(s)); got != (code == api.OK && strings.Contains(s, end)) {
					t.Errorf("%.300q: sealed %t", s, got)
				}
			}
		}
	}
	large := part("application/octet-stream", "8bit", api.MaxCipher+1)
	for _, s := range []string{
		heads + part("text/html", "8bit", api.MaxCipher+1),
		heads + large,
		heads + sealed + second + "--x\n" + large + "\n" + end,
		heads + sealed + first + "--x\n" + large + "\n" + second + end,
		heads + sealed + strings.Replace(first, "1", "2", 1) + "--x\n" + large + "\n" + end,
		strings.Replace(heads, "<1>", "1", 1) + sealed + first + "--x\n" + large + "\n" + end,
	} {
		if e, code := Read(mailOf(s)); code != api.ErrForm || !none(e) {
			t.Errorf("%.300q: %s, %v", s, tell(e), code)
		}
	}
	// The first part isn't what an envelope holds.
	long := strings.Replace(first, "Version: 1", "Version: 1"+strings.Repeat("x", api.MaxCipher), 1)
	if e, code := Read(mailOf(heads + sealed + long + second + end)); code != api.OK || string(e.Cipher) != "\x01\x02\x03" {
		t.Errorf("%s, %v", tell(e), code)
	}
}

func TestSealed(t *testing.T) { // P13.3
	l, _ := Write(known())
	b, _ := letter.Write(l)
	if !Sealed(b) {
		t.Errorf("%q", b)
	}
	open, _ := Write(with(func(e *api.Envelope) { e.Plain = true }))
	plain, _ := letter.Write(open)
	for _, b := range [][]byte{nil, {}, []byte("x"), []byte("\n"), plain, b[:len(b)/2], b[:40], append([]byte("\r\n"), b...), append([]byte(" "), b...), append(bytes.Clone(b), make([]byte, api.MaxMail+1-len(b))...), append([]byte(strings.Repeat("A: b\n", 200)), b...)} {
		if Sealed(b) {
			t.Errorf("%.200q", b)
		}
	}
	if !Sealed(append(bytes.Clone(b), make([]byte, api.MaxMail-len(b))...)) {
		t.Errorf("as long a mail as may be isn't")
	}
}

func TestBeside(t *testing.T) { // P13.3: of wrong envelopes, too
	for _, c := range []struct {
		e    api.Envelope
		want string
	}{
		{known(), "ann@x.org\nbob@y\n1@x\nth\n"},
		{with(func(e *api.Envelope) { e.Plain, e.Bundle, e.Cipher = true, nil, nil }), "ann@x.org\nbob@y\n1@x\nth\n"},
		{api.Envelope{}, "\n\n\n\n"},
		{api.Envelope{From: "\n", To: "a b", Id: "\x00\xff", Thread: strings.Repeat("x", 1<<16), Cipher: make([]byte, api.MaxCipher+1)}, "\n\na b\n\x00\xff\n" + strings.Repeat("x", 1<<16) + "\n"},
	} {
		if got := Beside(c.e); string(got) != c.want {
			t.Errorf("%s: %.100q", tell(c.e), got)
		}
	}
}

// someEnvelope gives an envelope of no order, mostly a right one.
func someEnvelope(roll func(n int) int) api.Envelope {
	text := func(most int, pieces ...string) string {
		s := pieces[roll(2)]
		for range roll(most) {
			s += pieces[roll(len(pieces))]
		}
		return s
	}
	bytesOf := func(most int) []byte {
		b := make([]byte, roll(most))
		for i := range b {
			b[i] = byte(roll(256))
		}
		return b
	}
	id := func() string {
		s := text(8, "a", "b@c", "1", ".", "-", ",", ":", "~", "!", "[", "]", "@")
		if roll(25) == 0 {
			s += []string{" ", "<", ">", "(", ")", "\"", "\\", "\x7f", "\t", strings.Repeat("x", 200)}[roll(10)]
		}
		return s
	}
	address := func() string {
		s := text(3, "a", "B-c", "x", "1") + "@" + text(3, "d", "e.f", "g")
		if roll(25) == 0 {
			s += []string{"X", ".", " ", "@", ">", "(c)", "\n"}[roll(7)]
		}
		return s
	}
	return api.Envelope{From: address(), To: address(), Id: id(), Thread: id(), Plain: roll(2) == 0, Bundle: bytesOf(1 + 100*roll(2)), Cipher: bytesOf(200)}
}

// slowWrite is Write as the chapter tells it, in the mail's bytes, of envelopes that are small.
func slowWrite(e api.Envelope) (string, api.Errno) {
	from, wrong := token.Address(e.From)
	to, wrongTo := token.Address(e.To)
	if wrong != api.OK || wrongTo != api.OK || from != e.From || to != e.To || !idForm.MatchString(e.Id) || !idForm.MatchString(e.Thread) {
		return "", api.ErrForm
	}
	s := "From: " + e.From + "\r\nTo: " + e.To + "\r\nMessage-ID: <" + e.Id + ">\r\nX-Thread: <" + e.Thread + ">\r\n"
	if len(e.Bundle) > 0 {
		s += "X-Keys: " + armor.Encode(e.Bundle) + "\r\n"
	}
	cipher := "Content-Transfer-Encoding: base64\r\n\r\n" + string(armor.Lines(e.Cipher))
	if e.Plain {
		return s + "Content-Type: text/plain\r\n" + cipher, api.OK
	}
	s += "Content-Type: multipart/encrypted; boundary=despatch-part;\r\n protocol=application/x-despatch\r\n\r\n"
	s += "--despatch-part\r\nContent-Type: application/x-despatch\r\nContent-Transfer-Encoding: 8bit\r\n\r\nVersion: 1\r\n"
	return s + "--despatch-part\r\nContent-Type: application/octet-stream\r\n" + cipher + "\r\n--despatch-part--\r\n", api.OK
}

func TestBack(t *testing.T) { // P13.1, P13.3, P13.4
	many := map[api.Errno]int{}
	for n := range 10000 {
		e := someEnvelope(dice(n))
		l, code := Write(e)
		want, wrong := slowWrite(e)
		many[code]++
		if code != wrong || code != api.OK && !noMail(l) {
			t.Errorf("%s: %v, want %v", tell(e), code, wrong)
		}
		if code != api.OK {
			continue
		}
		b, _ := letter.Write(l)
		if string(b) != want || Sealed(b) == e.Plain {
			t.Errorf("%s: %q, want %q, sealed %t", tell(e), b, want, Sealed(b))
		}
		for _, l := range []api.Letter{l, mailOf(string(b)), mailOf(strings.ReplaceAll(string(b), "\r\n", "\n"))} {
			if back, code := Read(l); code != api.OK || !alike(back, e) {
				t.Errorf("%s: read of it is %s, %v", tell(e), tell(back), code)
			}
		}
	}
	if many[api.OK] < 5000 || many[api.ErrForm] < 500 {
		t.Errorf("too few of one kind: %v", many)
	}
}

func TestBackLarge(t *testing.T) { // P13.4: the greatest envelope goes as a mail's bytes, too
	cipher := make([]byte, api.MaxCipher)
	roll := dice(1)
	for i := range cipher {
		cipher[i] = byte(roll(256))
	}
	long := strings.Repeat("a", 4000)
	for _, plain := range []bool{false, true} {
		e := api.Envelope{From: long + "@b", To: "c@" + long, Id: strings.Repeat("~", 200), Thread: strings.Repeat("!", 200), Plain: plain, Bundle: cipher[:3000], Cipher: cipher}
		l, code := Write(e)
		b, wrong := letter.Write(l)
		if code != api.OK || wrong != api.OK {
			t.Fatal(code, wrong)
		}
		if back, code := Read(mailOf(string(b))); code != api.OK || !alike(back, e) || Sealed(b) == plain {
			t.Errorf("%s, %v", tell(back), code)
		}
	}
}

// spoil writes over all of an envelope's lists, and over the room behind them.
func spoil(e api.Envelope) {
	clear(e.Bundle[:cap(e.Bundle)])
	clear(e.Cipher[:cap(e.Cipher)])
}

// spoilMail writes over all of a mail, and over the room behind its lists.
func spoilMail(l api.Letter) {
	clear(l.Fields[:cap(l.Fields)])
	clear(l.Body[:cap(l.Body)])
}

func TestMemory(t *testing.T) { // P2, and rule 4: arguments stay as they are, and answers are new memory
	for _, plain := range []bool{false, true} {
		want := with(func(e *api.Envelope) { e.Plain = plain })
		spare := []byte("fo and more")
		e := want
		e.Bundle, e.Cipher = spare[:2], append(make([]byte, 0, 64), want.Cipher...)
		one, _ := Write(e)
		two, _ := Write(e)
		again, _ := Write(want)
		spoilMail(one)
		if !alike(e, want) || string(spare) != "fo and more" {
			t.Errorf("the argument of Write changes, or with the answer: %s, %q", tell(e), spare)
		}
		spoil(e)
		if !alikeMails(two, again) {
			t.Errorf("the answer of Write changes with another, or with the argument: %q", two)
		}
		first, _ := Read(two)
		second, _ := Read(two)
		clear(first.Bundle[:cap(first.Bundle)])
		if !bytes.Equal(first.Cipher, want.Cipher) {
			t.Errorf("the lists of one answer share memory: %s", tell(first))
		}
		spoil(first)
		if !alikeMails(two, again) {
			t.Errorf("the argument of Read changes, or with the answer: %q", two)
		}
		b, _ := letter.Write(two)
		kept := bytes.Clone(b)
		if Sealed(b) == plain || !bytes.Equal(b, kept) {
			t.Errorf("the argument of Sealed changes: %q", b)
		}
		spoilMail(two)
		if !alike(second, want) {
			t.Errorf("the answer of Read changes with another, or with the argument: %s", tell(second))
		}
		told, other := Beside(want), Beside(want)
		clear(told[:cap(told)])
		if string(other) != "ann@x.org\nbob@y\n1@x\nth\n" || !alike(want, with(func(e *api.Envelope) { e.Plain = plain })) {
			t.Errorf("%q, %s", other, tell(want))
		}
	}
}

// slowRead is Read as the chapter tells it, of what stands in a mail once.
func slowRead(l api.Letter) (e api.Envelope, code api.Errno) {
	get := func(name string) string {
		value, _ := letter.Get(l, name)
		return value
	}
	var wrong [5]api.Errno
	var ids, threads []string
	e.From, wrong[0] = token.Address(get("From"))
	e.To, wrong[1] = token.Address(get("To"))
	ids, wrong[2] = token.Ids(get("Message-ID"))
	threads, wrong[3] = token.Ids(get("X-Thread"))
	e.Bundle, wrong[4] = armor.Read([]byte(get("X-Keys")))
	if wrong != [5]api.Errno{} || len(ids) != 1 || len(threads) != 1 || !idForm.MatchString(ids[0]) || !idForm.MatchString(threads[0]) {
		return api.Envelope{}, api.ErrForm
	}
	e.Id, e.Thread = ids[0], threads[0]
	p, code := mime.Read(l)
	if code != api.OK {
		return api.Envelope{}, code
	}
	e.Plain, e.Cipher = p.Kind == "text/plain", p.Body
	if e.Plain {
		return e, api.OK
	}
	tells := p.Kind == "multipart/encrypted" && len(p.Params) > 1 && p.Params[1] == api.Param{Name: "protocol", Value: "application/x-despatch"}
	if !tells || len(p.Parts) != 2 || p.Parts[0].Kind != "application/x-despatch" || p.Parts[1].Kind != "application/octet-stream" || !strings.HasPrefix(string(p.Parts[0].Body), "Version: 1") {
		return api.Envelope{}, api.ErrForm
	}
	e.Cipher = p.Parts[1].Body
	return e, api.OK
}

func TestAnything(t *testing.T) { // P1, P13.2, P13.3: whatever the bytes are, it ends, and gives an envelope or an error alone
	many := map[string]int{}
	for n := range 20000 {
		roll := dice(n)
		some := func(texts ...string) string { return texts[max(0, roll(len(texts)+16)-16)] }
		s := some("From: a@b\n", "From: a\n", "") + some("To: c@d\n", "To: C <c@D>\n", "To: \n") + some("Message-ID: <1>\n", "Message-ID: 1\n", "Message-ID: <a(b>\n")
		s += some("X-Thread: <t>\n", "X-Thread: <t> <u>\n", "X-Thread: <\\>\n") + some("", "X-Keys: AAAA\n", "X-Keys: A\n", "X-Keys: AA==\n")
		if roll(3) == 0 {
			s += some("", "Content-Type: text/plain; a=b\n", "Content-Type: a/b\n", "Content-Type: x\n") + some("", "Content-Transfer-Encoding: base64\n", "Content-Transfer-Encoding: x\n") + "\n" + some("AAAA", "=", "AA==", "")
		} else {
			s += some("Content-Type: multipart/encrypted; boundary=x; protocol=application/x-despatch\n", "Content-Type: multipart/mixed; boundary=x; protocol=application/x-despatch\n", "Content-Type: multipart/encrypted; boundary=x; protocol=b\n") + "\n"
			for range max(0, roll(20)-16) {
				s += some(first, second, "--x\n\nx\n")
			}
			s += some(first, second, "--x\n\nVersion: 1\n", strings.Replace(first, "1", "2", 1), strings.Replace(first, "V", "v", 1))
			s += some(second, first, strings.Replace(second, "AQID", "A", 1), strings.Replace(second, "base64", "binary", 1), "") + some(end, "", "--x\n--x--")
		}
		if roll(4) == 0 && s != "" {
			b := []byte(s)
			b[roll(len(b))] ^= byte(1 << roll(8))
			s = string(b)
		}
		l, code := letter.Read([]byte(s))
		if code != api.OK {
			if Sealed([]byte(s)) {
				t.Errorf("%q: sealed", s)
			}
			continue
		}
		e, code := Read(l)
		want, wrong := slowRead(l)
		many[fmt.Sprint(code, e.Plain)]++
		if code != wrong || !alike(e, want) || code != api.OK && !none(e) {
			t.Errorf("%q: %s, %v, want %s, %v", s, tell(e), code, tell(want), wrong)
		}
		if got := Sealed([]byte(s)); got != (code == api.OK && !e.Plain) {
			t.Errorf("%q: sealed %t", s, got)
		}
	}
	if many["errno 0 true"] < 500 || many["errno 0 false"] < 500 || many["errno 3 false"] < 500 {
		t.Errorf("too few of one kind: %v", many)
	}
}
