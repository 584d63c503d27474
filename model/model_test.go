package model

import (
	"bytes"
	"fmt"
	"slices"
	"testing"

	"despatch/api"
)

// dice gives numbers that seem to be of no order, each from 0 to one less than asked.
func dice(first int) func(n int) int {
	x := uint32(first)*2654435761 + 12345
	return func(n int) int {
		x = x*1664525 + 1013904223
		return int(x>>8) % n
	}
}

// sentMails are some mails that were sent, two of them with the same from, to and id.
func sentMails() []api.Sent {
	return []api.Sent{
		{From: "ann", To: "bob", Id: "1", Thread: "tea", Sealed: true, Body: []byte("one")},
		{From: "ann", To: "bob", Id: "2", Thread: "tea", Body: []byte("two")},
		{From: "ann", To: "cyd", Id: "1", Thread: "tea"},
		{From: "cyd", To: "bob", Id: "1", Thread: "milk", Body: []byte("three")},
		{From: "ann", To: "bob", Id: "2", Thread: "milk", Sealed: true},
		{From: "bob", To: "bob", Id: "2", Thread: "tea"},
		{},
	}
}

// noteOf gives the note by which a mail was delivered as it was sent.
func noteOf(s api.Sent) api.Note {
	return api.Note{From: s.From, Id: s.Id, Thread: s.Thread, Sealed: s.Sealed, Body: bytes.Clone(s.Body)}
}

func TestPlace(t *testing.T) { // P24.1: the first one with the note's From and Id that was sent to who; none
	for _, c := range []struct {
		who, from, id string
		want          int
		is            bool
	}{
		{"bob", "ann", "1", 0, true},
		{"bob", "ann", "2", 1, true}, // of two the first one
		{"cyd", "ann", "1", 2, true},
		{"bob", "cyd", "1", 3, true},
		{"bob", "bob", "2", 5, true},
		{"", "", "", 6, true},
		{"cyd", "ann", "2", 0, false}, // it was sent to another one
		{"ann", "ann", "1", 0, false},
		{"bob", "bob", "1", 0, false},
		{"bob", "ann", "3", 0, false},
		{"bob", "ann", "", 0, false},
		{"bob", "", "1", 0, false},
		{"", "ann", "1", 0, false},
		{"bob", "1", "ann", 0, false},
		{"Bob", "ann", "1", 0, false},
		{"bob", "an", "n1", 0, false}, // the parts count, not the bytes in a row
		{"ob", "annb", "1", 0, false},
		{"bob", "ann\x00", "1", 0, false},
	} {
		// Whatever else the note tells.
		for _, n := range []api.Note{{}, {Thread: "tea", Sealed: true, Body: []byte("one")}, {Thread: "?", Body: []byte("?")}} {
			n.From, n.Id = c.from, c.id
			if at, is := Place(sentMails(), c.who, n); at != c.want || is != c.is {
				t.Errorf("%v: %d, %t", c, at, is)
			}
		}
	}
	if at, is := Place(nil, "", api.Note{}); at != 0 || is {
		t.Error("there is a place among none")
	}
}

func TestJudge(t *testing.T) { // P24.2: each fault alone, and none
	sent := sentMails()
	right := noteOf(sent[0])
	changed := func(change func(n *api.Note)) []api.Note {
		n := right
		change(&n)
		return []api.Note{n}
	}
	for i, c := range []struct {
		who   string
		notes []api.Note
		want  []int
	}{
		{"bob", nil, nil},
		{"nobody", nil, nil},
		{"bob", []api.Note{right}, nil},
		{"bob", []api.Note{noteOf(sent[3]), right, noteOf(sent[1])}, nil},
		{"cyd", []api.Note{noteOf(sent[2])}, nil},
		{"", []api.Note{{}}, nil},
		{"ann", []api.Note{right}, []int{Unknown}},
		{"cyd", []api.Note{noteOf(sent[1])}, []int{Unknown}},
		{"bob", []api.Note{{}}, []int{Unknown}},
		{"bob", changed(func(n *api.Note) { n.From = "bob" }), []int{Unknown}},
		{"bob", changed(func(n *api.Note) { n.Id = "3" }), []int{Unknown}},
		{"bob", changed(func(n *api.Note) { n.Id = "3"; n.Thread = "?"; n.Body = nil; n.Sealed = false }), []int{Unknown}},
		{"bob", []api.Note{right, right}, []int{Twice}},
		{"bob", []api.Note{right, noteOf(sent[1]), noteOf(sent[3]), right}, []int{Twice}},
		{"bob", []api.Note{{From: "x", Id: "1"}, {From: "x", Id: "1"}}, []int{Unknown, Twice}},
		{"bob", []api.Note{{From: "x", Id: "1"}, {From: "x", Id: "2"}, {From: "y", Id: "1"}}, []int{Unknown}},
		{"bob", changed(func(n *api.Note) { n.Thread = "milk" }), []int{Thread}},
		{"bob", changed(func(n *api.Note) { n.Thread = "" }), []int{Thread}},
		{"bob", changed(func(n *api.Note) { n.Body = []byte("onE") }), []int{Body}},
		{"bob", changed(func(n *api.Note) { n.Body = []byte("on") }), []int{Body}},
		{"bob", changed(func(n *api.Note) { n.Body = []byte("ones") }), []int{Body}},
		{"bob", changed(func(n *api.Note) { n.Body = nil }), []int{Body}},
		{"cyd", []api.Note{{From: "ann", Id: "1", Thread: "tea", Body: []byte{0}}}, []int{Body}},
		{"cyd", []api.Note{{From: "ann", Id: "1", Thread: "tea", Body: []byte{}}}, nil}, // no bytes are one with no list
		{"bob", changed(func(n *api.Note) { n.Sealed = false }), []int{Sealed}},
		{"bob", []api.Note{{From: "ann", Id: "2", Thread: "tea", Sealed: true, Body: []byte("two")}}, []int{Sealed}},
		// It is held against the first one of its place, and against no other one.
		{"bob", []api.Note{noteOf(sent[4])}, []int{Thread, Body, Sealed}},
	} {
		if got := Judge(sent, c.who, c.notes); !slices.Equal(got, c.want) {
			t.Errorf("%d: %v, not %v", i, got, c.want)
		}
	}
	if got := Judge(nil, "bob", []api.Note{right, right}); !slices.Equal(got, []int{Unknown, Twice}) {
		t.Error(got)
	}
}

func TestJudgeAll(t *testing.T) { // P24.2: each of the faults that there are once, and rising, however often and in whatever order they come
	for set := range 1 << 5 {
		var want []int
		var sent []api.Sent
		var notes []api.Note
		for range 3 {
			for fault := Sealed; fault >= Unknown; fault-- {
				s := api.Sent{From: "ann", To: "bob", Id: fmt.Sprint(len(sent)), Thread: "t", Body: []byte("b")}
				sent = append(sent, s)
				n := noteOf(s)
				notes = append(notes, n)
				if set>>(fault-1)&1 == 0 {
					continue
				}
				last := &notes[len(notes)-1]
				switch fault {
				case Unknown:
					last.Id += "?"
				case Twice:
					notes = append(notes, n)
				case Thread:
					last.Thread = "u"
				case Body:
					last.Body = []byte("c")
				case Sealed:
					last.Sealed = true
				}
			}
		}
		for fault := Unknown; fault <= Sealed; fault++ {
			if set>>(fault-1)&1 == 1 {
				want = append(want, fault)
			}
		}
		if got := Judge(sent, "bob", notes); !slices.Equal(got, want) {
			t.Errorf("%v, not %v", got, want)
		}
	}
	if fmt.Sprint(Unknown, Twice, Thread, Body, Sealed) != "1 2 3 4 5" {
		t.Error("the faults have other numbers")
	}
}

func TestMissing(t *testing.T) { // P24.2: what was sent to who, and no note has; in order
	sent := sentMails()
	for i, c := range []struct {
		who   string
		notes []api.Note
		want  []string
	}{
		{"bob", nil, []string{"1", "2", "1", "2", "2"}},
		{"cyd", nil, []string{"1"}},
		{"", nil, []string{""}},
		{"", []api.Note{{}}, nil},
		{"ann", nil, nil},
		{"ann", []api.Note{noteOf(sent[0])}, nil},
		{"bob", []api.Note{noteOf(sent[0])}, []string{"2", "1", "2", "2"}},
		{"bob", []api.Note{noteOf(sent[3])}, []string{"1", "2", "2", "2"}},
		{"bob", []api.Note{noteOf(sent[4])}, []string{"1", "1", "2"}}, // a note has both of one From and Id
		{"bob", []api.Note{noteOf(sent[5]), noteOf(sent[0])}, []string{"2", "1", "2"}},
		{"bob", []api.Note{{From: "ann", Id: "1", Thread: "?", Body: []byte("?")}}, []string{"2", "1", "2", "2"}}, // whatever else it tells
		{"bob", []api.Note{{From: "ann", Id: "3"}, {From: "cyd", Id: "2"}, {From: "1", Id: "ann"}, {Id: "1"}, {From: "ann"}}, []string{"1", "2", "1", "2", "2"}},
		{"bob", []api.Note{noteOf(sent[5]), noteOf(sent[3]), noteOf(sent[1]), noteOf(sent[0]), noteOf(sent[0])}, nil},
	} {
		if got := Missing(sent, c.who, c.notes); !slices.Equal(got, c.want) {
			t.Errorf("%d: %q, not %q", i, got, c.want)
		}
	}
	if got := Missing(nil, "bob", []api.Note{{}}); len(got) != 0 {
		t.Error(got)
	}
}

// slowPlace is Place by the chapter's words; -1, if there is none.
func slowPlace(sent []api.Sent, who string, n api.Note) int {
	return slices.IndexFunc(sent, func(s api.Sent) bool { return s.From == n.From && s.Id == n.Id && s.To == who })
}

// slowJudge is Judge by the chapter's words.
func slowJudge(sent []api.Sent, who string, notes []api.Note) []int {
	var list []int
	for i, n := range notes {
		for _, other := range notes[:i] {
			if other.From == n.From && other.Id == n.Id {
				list = append(list, 2)
			}
		}
		at := slowPlace(sent, who, n)
		if at < 0 {
			list = append(list, 1)
			continue
		}
		if sent[at].Thread != n.Thread {
			list = append(list, 3)
		}
		if string(sent[at].Body) != string(n.Body) {
			list = append(list, 4)
		}
		if sent[at].Sealed != n.Sealed {
			list = append(list, 5)
		}
	}
	slices.Sort(list)
	return slices.Compact(list)
}

// slowMissing is Missing by the chapter's words.
func slowMissing(sent []api.Sent, who string, notes []api.Note) []string {
	var list []string
	for _, s := range sent {
		has := slices.ContainsFunc(notes, func(n api.Note) bool { return n.From == s.From && n.Id == s.Id })
		if s.To == who && !has {
			list = append(list, s.Id)
		}
	}
	return list
}

// someText gives one of a few texts, which together make each other in many ways.
func someText(roll func(int) int) string {
	return []string{"", "a", "b", "ab", "a", "b"}[roll(6)]
}

// someMails gives some mails that were sent, and some notes, most of which tell one of them, and not all of them rightly.
func someMails(roll func(int) int) (sent []api.Sent, notes []api.Note) {
	for range roll(7) {
		sent = append(sent, api.Sent{From: someText(roll), To: someText(roll), Id: someText(roll), Thread: someText(roll), Sealed: roll(2) == 0, Body: []byte(someText(roll))})
	}
	for range roll(5) {
		n := api.Note{From: someText(roll), Id: someText(roll), Thread: someText(roll), Sealed: roll(2) == 0, Body: []byte(someText(roll))}
		if len(sent) > 0 && roll(4) > 0 {
			n = noteOf(sent[roll(len(sent))])
		}
		switch roll(12) {
		case 0:
			n.Thread = someText(roll)
		case 1:
			n.Body = []byte(someText(roll))
		case 2:
			n.Sealed = !n.Sealed
		}
		notes = append(notes, n)
	}
	return sent, notes
}

func TestSlow(t *testing.T) { // P24.1 to P24.3: mails and notes of no order, held against the chapter's words; what is handed in stays as it was
	faults := map[string]int{}
	roll := dice(1)
	for range 60000 {
		sent, notes := someMails(roll)
		who := someText(roll)
		ahead := fmt.Sprint(sent, notes)
		judged, missing := Judge(sent, who, notes), Missing(sent, who, notes)
		if want := slowJudge(sent, who, notes); !slices.Equal(judged, want) {
			t.Fatalf("%v, %q, %v: %v, not %v", sent, who, notes, judged, want)
		}
		if want := slowMissing(sent, who, notes); !slices.Equal(missing, want) {
			t.Fatalf("%v, %q, %v: %q, not %q", sent, who, notes, missing, want)
		}
		for _, n := range notes {
			want := slowPlace(sent, who, n)
			if at, is := Place(sent, who, n); is != (want >= 0) || at != max(0, want) {
				t.Fatalf("%v, %q, %v: %d, %t, not %d", sent, who, n, at, is, want)
			}
		}
		if now := fmt.Sprint(sent, notes); now != ahead {
			t.Fatalf("%s was changed to %s", ahead, now)
		}
		faults[fmt.Sprint(judged)]++
	}
	if len(faults) < 20 {
		t.Error(faults)
	}
}

func TestMemory(t *testing.T) { // P24.3, P2: the answers of the same calls are the same, and share no memory
	sent := sentMails()
	notes := []api.Note{{From: "x"}, noteOf(sent[4]), noteOf(sent[4])}
	judged, missing := Judge(sent, "bob", notes), Missing(sent, "bob", notes)
	told := fmt.Sprint(judged, missing)
	clear(judged[:cap(judged)])
	clear(missing[:cap(missing)])
	if again := fmt.Sprint(Judge(sent, "bob", notes), Missing(sent, "bob", notes)); again != told {
		t.Errorf("%s, not %s", again, told)
	}
	// What is changed behind a call isn't known by the next one.
	clear(notes)
	if at, is := Place(sent[:1], "bob", notes[0]); at != 0 || is {
		t.Error(at)
	}
	if got := Judge(sent[:1], "bob", notes); !slices.Equal(got, []int{Unknown, Twice}) {
		t.Error(got)
	}
}

func TestMany(t *testing.T) { // P1: of very many it ends soon, too
	const many = 200000
	sent, notes := make([]api.Sent, many), make([]api.Note, many)
	for i := range many {
		sent[i] = api.Sent{From: "ann", To: "bob", Id: fmt.Sprint(i)}
		notes[many-1-i] = noteOf(sent[i])
	}
	if got := Judge(sent, "bob", notes); len(got) != 0 {
		t.Error(got)
	}
	if got := Missing(sent, "bob", notes[1:]); !slices.Equal(got, []string{fmt.Sprint(many - 1)}) {
		t.Error(got)
	}
}
