package talk

import (
	"bytes"
	"fmt"
	"slices"
	"strings"
	"testing"

	"despatch/api"
)

// postedOf gives a mail of no order, which mostly may be sent.
func postedOf(roll func(n int) int) api.Posted {
	addresses := []string{"a@b", "A.b@c.d", "--@--", "!#$%&'*+-^_`{|}~@0", "a@b", "c.d@e", "f@g", strings.Repeat("a", 496) + "@b"}
	if roll(4) == 0 {
		addresses = append(addresses, "", "a", "a@B", "<a@b>", "a@b ", "(x)a@b", "a@b\r\nQUIT", "a@\xff", strings.Repeat("a", 500)+"@b")
	}
	m := api.Posted{From: addresses[roll(len(addresses))]}
	for range roll(13) {
		m.To = append(m.To, addresses[roll(len(addresses))])
	}
	for range roll(20) {
		m.Bytes = append(m.Bytes, []string{"a", ".", "..", "\r", "\n", "\r\n", ".\r\n", "\r\n.\r\n", "QUIT\r\n", "\x00", "\xff", "From: a\n"}[roll(12)]...)
	}
	return m
}

// taken tells when what is sent isn't taken as just the mail that it is of.
func taken(t *testing.T, m api.Posted, sent []byte) {
	t.Helper()
	p := NewPost()
	answers := string(p.Feed(sent))
	if want := strings.Repeat("250 ok\r\n", 2+len(m.To)) + "354 go\r\n250 ok\r\n221 bye\r\n"; answers != want {
		t.Errorf("%.300q: answers %q", sent, answers)
	}
	mails := p.Mails()
	m.Bytes = []byte(slowLaid(string(m.Bytes)))
	if !p.Closed() || !same(mails, []api.Posted{m}) {
		t.Errorf("%.300q: %.300s", sent, told(mails))
	}
}

func TestSendKnown(t *testing.T) { // P21.2
	for _, c := range []struct {
		m    api.Posted
		want string
	}{
		{api.Posted{From: "a@b", To: []string{"c@d"}}, "HELO despatch\r\nMAIL FROM:<a@b>\r\nRCPT TO:<c@d>\r\nDATA\r\n.\r\nQUIT\r\n"},
		{api.Posted{From: "A@b", To: []string{"c@d", "E@f", "c@d"}, Bytes: []byte(".\n\r.x")}, "HELO despatch\r\nMAIL FROM:<A@b>\r\nRCPT TO:<c@d>\r\nRCPT TO:<E@f>\r\nRCPT TO:<c@d>\r\nDATA\r\n..\r\n\r\n..x\r\n.\r\nQUIT\r\n"},
		{api.Posted{From: "a@b", To: []string{"a@b"}, Bytes: []byte("x\r\n")}, "HELO despatch\r\nMAIL FROM:<a@b>\r\nRCPT TO:<a@b>\r\nDATA\r\nx\r\n.\r\nQUIT\r\n"},
	} {
		got, code := Send(c.m)
		if string(got) != c.want || code != api.OK {
			t.Errorf("%q, %v", got, code)
		}
		taken(t, c.m, got)
	}
}

func TestSend(t *testing.T) { // P21.2: mails of all kinds
	counts := map[api.Errno]int{}
	for n := range 20000 {
		m := postedOf(dice(n))
		got, code := Send(m)
		want, asked := slowSend(m)
		if code != asked || string(got) != want {
			t.Fatalf("%+v: %.300q, %v, not %.300q, %v", m, got, code, want, asked)
		}
		if code == api.OK {
			taken(t, m, got)
		} else if got != nil {
			t.Errorf("%v: %q", code, got)
		}
		counts[code]++
	}
	if counts[api.OK] < 5000 || counts[api.ErrForm] < 500 || counts[api.ErrRange] < 500 {
		t.Errorf("%v", counts)
	}
}

func TestSendAddresses(t *testing.T) { // P21.2: each byte of an address, and how long a line may be
	try := func(address string) {
		t.Helper()
		for _, m := range []api.Posted{{From: address, To: []string{"c@d"}}, {From: "a@b", To: []string{address}}, {From: "a@b", To: []string{"c@d", address, "e@f"}}} {
			got, code := Send(m)
			want, asked := slowSend(m)
			if code != asked || string(got) != want {
				t.Errorf("%.600q: %.600q, %v, not %v", address, got, code, asked)
			}
			if code == api.OK {
				taken(t, m, got)
			}
		}
	}
	for c := range 256 {
		x := string([]byte{byte(c)})
		for _, address := range []string{x, x + "@b", "a@" + x, "a" + x + "@b", x + "a@b", "a@b" + x, "a@" + x + "b", "a.b@c" + x + "d", "a" + x + "b@c"} {
			try(address)
		}
	}
	for n := 496; n < 506; n++ {
		for _, address := range []string{strings.Repeat("a", n-2) + "@b", "a@" + strings.Repeat("b", n-2), strings.Repeat("(", n), strings.Repeat(" ", n-3) + "a@b"} {
			try(address)
		}
	}
	for n, want := range map[int][2]api.Errno{500: {api.OK, api.OK}, 501: {api.ErrForm, api.OK}, 502: {api.ErrForm, api.OK}, 503: {api.ErrForm, api.ErrForm}, 1 << 20: {api.ErrForm, api.ErrForm}} {
		long := strings.Repeat("a", n-2) + "@b"
		if _, code := Send(api.Posted{From: long, To: []string{"c@d"}}); code != want[0] {
			t.Errorf("from %d bytes: %v", n, code)
		}
		if _, code := Send(api.Posted{From: "a@b", To: []string{long}}); code != want[1] {
			t.Errorf("to %d bytes: %v", n, code)
		}
	}
}

func TestSendErrors(t *testing.T) { // P21.2: the errors, and their order
	large := make([]byte, api.MaxMail+1)
	many := slices.Repeat([]string{"c@d"}, 11)
	for i, c := range []struct {
		m    api.Posted
		want api.Errno
	}{
		{api.Posted{}, api.ErrForm},
		{api.Posted{From: "a@b"}, api.ErrRange},
		{api.Posted{From: "a@b", To: []string{}}, api.ErrRange},
		{api.Posted{From: "a@b", To: many[:10]}, api.OK},
		{api.Posted{From: "a@b", To: many}, api.ErrRange},
		{api.Posted{From: "a@b", To: slices.Repeat([]string{"c@d"}, 1000)}, api.ErrRange},
		{api.Posted{From: "a@b", To: append(slices.Clone(many), "c")}, api.ErrForm},
		{api.Posted{From: "a", To: many}, api.ErrForm},
		{api.Posted{From: "a"}, api.ErrForm},
		{api.Posted{From: "a@b", Bytes: large}, api.ErrRange},
		{api.Posted{From: "a@b", To: many, Bytes: large}, api.ErrRange},
		{api.Posted{From: "a@b", To: []string{""}, Bytes: large}, api.ErrForm},
		{api.Posted{From: "a", To: []string{"c@d"}, Bytes: large}, api.ErrForm},
		{api.Posted{From: "a@b", To: []string{"c@d"}, Bytes: large}, api.ErrTooLarge},
	} {
		if got, code := Send(c.m); code != c.want || code != api.OK && got != nil {
			t.Errorf("%d: %v, not %v", i, code, c.want)
		}
	}
}

func TestSendLarge(t *testing.T) { // P21.2: as many bytes as a mail may have when its lines are whole
	for x, size := range map[string]int{"x": 1, "\r\n": 2, "\n": 2, "\r": 2, ".\n": 3, ".x\r": 4, "..": 2, "a\n\rb": 6} {
		for more := -3; more < 0; more++ {
			count := api.MaxMail/size - 9
			b := strings.Repeat(x, count) + strings.Repeat("y", api.MaxMail-count*size+more)
			for _, end := range []string{"", "\r\n"} {
				m := api.Posted{From: "a@b", To: []string{"c@d"}, Bytes: []byte(b + end)}
				want := api.OK
				if more > -2 {
					want = api.ErrTooLarge
				}
				got, code := Send(m)
				if code != want || (got == nil) != (code != api.OK) {
					t.Errorf("%q, %d more, %q: %v, not %v", x, more, end, code, want)
				}
				if code == api.OK {
					taken(t, m, got)
				}
			}
		}
	}
	for size, want := range map[int]api.Errno{api.MaxMail - 3: api.OK, api.MaxMail - 2: api.OK, api.MaxMail - 1: api.ErrTooLarge, api.MaxMail: api.ErrTooLarge} {
		if _, code := Send(api.Posted{From: "a@b", To: []string{"c@d"}, Bytes: make([]byte, size)}); code != want {
			t.Errorf("%d bytes: %v", size, code)
		}
		if _, code := Send(api.Posted{From: "a@b", To: []string{"c@d"}, Bytes: append(make([]byte, size), "\r\n"...)}); size != api.MaxMail-1 && code != want {
			t.Errorf("%d bytes and an end: %v", size, code)
		}
	}
}

func TestSendMemory(t *testing.T) { // P2, and rule 4: the mail stays as it is, and the answer is new memory
	room := []byte("ahead.x\n.y\rspare")
	m := api.Posted{From: "a@b", To: []string{"c@d", "e@f", "g@h"}[:2], Bytes: room[5:11]}
	got, code := Send(m)
	kept := bytes.Clone(got)
	if code != api.OK || string(room) != "ahead.x\n.y\rspare" || fmt.Sprint(m.To[:3]) != "[c@d e@f g@h]" {
		t.Errorf("%v, %q, %v", code, room, m.To[:3])
	}
	again, _ := Send(m)
	clear(room)
	clear(again[:cap(again)])
	if !bytes.Equal(got, kept) {
		t.Error("the answer changes")
	}
}
