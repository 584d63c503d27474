package tale

import (
	"fmt"
	"math"
	"slices"
	"strings"
	"testing"

	"despatch/api"
	"despatch/model"
	"despatch/world"
)

// newWorld gives a world.
func newWorld(t *testing.T, agents, blocks int) *world.World {
	t.Helper()
	w, code := world.New(agents, blocks)
	if code != api.OK {
		t.Fatal(code)
	}
	return w
}

// tellAll gives all that a world tells, as a text.
func tellAll(w *world.World) string {
	text := fmt.Sprint(w.Under(), w.Sent())
	for n := range 4 {
		if a := w.Agent(n); a != nil {
			text += fmt.Sprint(n, w.Inbox(n), a.Outbox(), a.Notes(), a.Secured("t"), a.Secured("tea"))
		}
	}
	return text
}

// checkPlay plays a script, and checks what is told.
func checkPlay(t *testing.T, w *world.World, script, want []string) {
	t.Helper()
	if got := Play(w, script); !slices.Equal(got, want) {
		t.Fatalf("%q\nnot %q", got, want)
	}
}

func TestPlay(t *testing.T) { // P25.2: of each line, in order, it and the number of what Do answers
	w := newWorld(t, 2, 3000)
	checkPlay(t, w, nil, nil)
	checkPlay(t, w, []string{}, nil)
	send := func(who, to int, thread, body string, secure bool) string {
		return Line(api.Event{Kind: api.EvSend, Who: who, To: to, Thread: thread, Body: []byte(body), Secure: secure, Fresh: api.Key{1}})
	}
	fetch := func(who, n int, fresh byte) string {
		return Line(api.Event{Kind: api.EvFetch, Who: who, N: n, Fresh: api.Key{fresh}})
	}
	var script, want []string
	add := func(line string, number int) {
		script = append(script, line)
		want = append(want, fmt.Sprintf("%s = %d", line, number))
	}
	wrong := func(line string) {
		script = append(script, line)
		want = append(want, "? form")
	}
	add("post 0", 7)
	add(send(0, 1, "tea", "secret", true), 13) // the document's first example
	add("post 2", 2)
	add("post -1", 2)
	add("drop 0", 7)
	wrong("")
	wrong("?")
	wrong("post 0 ")
	add(send(0, 1, "", "x", false), 3)
	add(send(1, 0, "t", "hello", false), 0)
	wrong("post 01")
	add("post 1", 0)
	add("carry 5 1", 0)
	add("rewrite 0 3 1 7 -", 0)
	add("rewrite 0 77 1 7 00", 0)
	add("carry -1 0", 0)
	add("carry 0 0", 7)
	add(fetch(0, 0, 1), 0)
	add(fetch(0, 1, 2), 11)
	add(fetch(1, 0, 3), 7)
	add(send(0, 1, "tea", "secret", true), 0)
	add("reset 0 74", 7)
	add("post 0", 0)
	add("corrupt 0 -200 1", 0)
	add("corrupt 0 -200 1", 0)
	add("carry 0 0", 0)
	add("crash 1 000102", 0)
	add(fetch(1, 0, 4), 0)
	add("reset 1 746561", 0)
	add("reset 1 746561", 7)
	handed := slices.Clone(script)
	checkPlay(t, w, script, want)
	if !slices.Equal(script, handed) {
		t.Error("the script was changed")
	}
	if got, want := Tell(w, 0), "from a1@x.org id 1.a1@x.org thread t open 68656c6c6f\n"; got != want {
		t.Errorf("%q, not %q", got, want)
	}
	if got, want := Tell(w, 1), "from a0@x.org id 1.a0@x.org thread tea sealed 736563726574\n"; got != want {
		t.Errorf("%q, not %q", got, want)
	}
}

func TestPlayWrong(t *testing.T) { // P25.2: what is no line is told so, and nothing happens
	w := newWorld(t, 2, 3000)
	checkPlay(t, w, []string{"send 0 1 74 6869 0 " + noughts, "post 0"}, []string{"send 0 1 74 6869 0 " + noughts + " = 0", "post 0 = 0"})
	ahead := tellAll(w)
	wrong := []string{"? form", "x", "carry 0 2", "carry 0", "drop 00", "Drop 0", "drop 0\n", "corrupt 0 0 256", "post 0 = 0", "carry 0 0 = 0", "send 0 1 74 6869 0", "crash 0 0", "rewrite 0 1 0 0"}
	checkPlay(t, w, wrong, slices.Repeat([]string{"? form"}, len(wrong)))
	if got := tellAll(w); got != ahead {
		t.Errorf("%s\nnot %s", got, ahead)
	}
}

func TestTell(t *testing.T) { // P25.2: the notes of an agent, in order, each with a LF; nothing where there is none
	w := newWorld(t, 3, 3000)
	for _, n := range []int{0, 1, 2, 3, -1, 4, math.MinInt, math.MaxInt, 1 << 32} {
		if got := Tell(w, n); got != "" {
			t.Errorf("%d: %q", n, got)
		}
	}
	for i, e := range []api.Event{
		{Who: 1, To: 0, Thread: "one"},
		{Who: 0, To: 1, Thread: "two", Body: []byte("-")},
		{Who: 2, To: 1, Thread: "two", Body: []byte("\n from \x00\xff\xa0")},
		{Who: 1, To: 0, Thread: "three", Secure: true},
		{Who: 1, To: 0, Thread: "three", Body: []byte("now")},
	} {
		e.Kind, e.Fresh = api.EvSend, api.Key{byte(i + 1)}
		if code := w.Do(e); code != api.OK {
			t.Fatal(i, code)
		}
		w.Settle(api.Key{byte(i + 1)})
	}
	for n, want := range []string{
		"from a1@x.org id 1.a1@x.org thread one open -\nfrom a1@x.org id 2.a1@x.org thread three sealed -\nfrom a1@x.org id 3.a1@x.org thread three sealed 6e6f77\n",
		"from a0@x.org id 1.a0@x.org thread two open 2d\nfrom a2@x.org id 1.a2@x.org thread two open 0a2066726f6d2000ffa0\n",
		"", "",
	} {
		if got := Tell(w, n); got != want {
			t.Errorf("%d: %q, not %q", n, got, want)
		}
	}
}

// slowTell is Tell by the chapter's words.
func slowTell(w *world.World, n int) string {
	text := ""
	if a := w.Agent(n); a != nil {
		for _, note := range a.Notes() {
			how := map[bool]string{true: "sealed", false: "open"}[note.Sealed]
			text += fmt.Sprintf("from %s id %s thread %s %s %s\n", note.From, note.Id, note.Thread, how, slowBytes(string(note.Body)))
		}
	}
	return text
}

// someScript gives events that are likely in a world of so many agents, in no order.
func someScript(roll func(int) int, agents, many int) []api.Event {
	var list []api.Event
	for range many {
		e := someEvent(roll)
		kinds := []int{1, 1, 1, 1, 2, 2, 2, 2, 3, 3, 3, 4, 5, 7, 7, 7, 8, 9}
		e.Kind, e.Who, e.To = kinds[roll(len(kinds))], roll(agents), roll(agents)
		e.Thread, e.Rewrite.Kind = []string{"t", "tea", "milk"}[roll(3)], 1+roll(8)
		list = append(list, e)
	}
	return list
}

func TestPlayWorlds(t *testing.T) { // P25.2, P2: long scripts, held against a world in which the same events happen
	numbers := map[string]int{}
	for first := range 8 {
		roll := dice(10 + first)
		agents := 1 + first%4
		w, same := newWorld(t, agents, 2000), newWorld(t, agents, 2000)
		var script, want []string
		for _, e := range someScript(roll, agents, 150) {
			line := slowLine(e)
			if roll(20) == 0 {
				script, want = append(script, line+" "), append(want, "? form")
			}
			number := fmt.Sprintf(" = %d", same.Do(e))
			numbers[number]++
			script, want = append(script, line), append(want, line+number)
		}
		checkPlay(t, w, script, want)
		if tellAll(w) != tellAll(same) {
			t.Fatal("the worlds are not the same")
		}
		for n := range 5 {
			if got, want := Tell(w, n), slowTell(same, n); got != want {
				t.Errorf("%d: %q, not %q", n, got, want)
			}
		}
		if again := Play(newWorld(t, agents, 2000), script); !slices.Equal(again, want) {
			t.Error("the same script comes to something else")
		}
	}
	if len(numbers) < 6 {
		t.Error(numbers)
	}
}

func TestModel(t *testing.T) { // P23.3, by what mail is without keys: what scripts deliver is what was sent, and all of it where nothing stands against it
	for first := range 6 {
		roll := dice(40 + first)
		agents := 2 + first%3
		w := newWorld(t, agents, 3000)
		for _, e := range someScript(roll, agents, 200) {
			Play(w, []string{Line(e)})
		}
		w.Settle(api.Key{byte(first)})
		for n := range agents {
			if faults := model.Judge(w.Sent(), world.Name(n), w.Agent(n).Notes()); len(faults) > 0 {
				t.Errorf("%d: %v", n, faults)
			}
		}
	}
	w := newWorld(t, 2, 6000)
	Play(w, []string{"send 1 0 68 6869 0 " + noughts})
	w.Settle(api.Key{1})
	for i := range 12 {
		Play(w, []string{fmt.Sprintf("send 0 1 746561 %02x 1 %02x%s", i, i+1, noughts[2:]), "post 0", "rewrite -1 8 0 19 -", "rewrite -1 3 2 5 -", "carry -2 1"})
	}
	if missing := model.Missing(w.Sent(), world.Name(1), w.Agent(1).Notes()); len(missing) != 12 {
		t.Error(missing)
	}
	w.Settle(api.Key{2})
	if missing := model.Missing(w.Sent(), world.Name(1), w.Agent(1).Notes()); len(missing) != 0 {
		t.Error(missing)
	}
	if faults := model.Judge(w.Sent(), world.Name(1), w.Agent(1).Notes()); len(faults) != 0 || strings.Count(Tell(w, 1), " sealed ") != 12 {
		t.Error(faults, Tell(w, 1))
	}
}
