package tale

import (
	"strings"

	"despatch/api"
)

// form is how the events of a kind are told: their kind, its name, and the fields behind that, in order.
type form struct {
	kind   int
	name   string
	fields []field
}

// forms gives how events are told, by their kinds.
func forms() map[int]form {
	who := number(func(e *api.Event) *int { return &e.Who })
	to := number(func(e *api.Event) *int { return &e.To })
	n := number(func(e *api.Event) *int { return &e.N })
	m := number(func(e *api.Event) *int { return &e.M })
	thread := text(func(e *api.Event) *string { return &e.Thread })
	body := text(func(e *api.Event) *[]byte { return &e.Body })
	secure := yesNo(func(e *api.Event) *bool { return &e.Secure })
	stays := yesNo(func(e *api.Event) *bool { return &e.Stays })
	turn := small(func(e *api.Event) *byte { return &e.Turn })
	fresh := key(func(e *api.Event) *api.Key { return &e.Fresh })
	rewriteKind := number(func(e *api.Event) *int { return &e.Rewrite.Kind })
	rewriteN := number(func(e *api.Event) *int { return &e.Rewrite.N })
	rewriteM := number(func(e *api.Event) *int { return &e.Rewrite.M })
	rewriteText := text(func(e *api.Event) *string { return &e.Rewrite.Text })

	all := map[int]form{}
	add := func(kind int, name string, fields ...field) { all[kind] = form{kind, name, fields} }
	add(api.EvSend, "send", who, to, thread, body, secure, fresh)
	add(api.EvPost, "post", who)
	add(api.EvCarry, "carry", n, stays)
	add(api.EvDrop, "drop", n)
	add(api.EvRewrite, "rewrite", n, rewriteKind, rewriteN, rewriteM, rewriteText)
	add(api.EvCorrupt, "corrupt", n, m, turn)
	add(api.EvFetch, "fetch", who, n, fresh)
	add(api.EvCrash, "crash", who, body)
	add(api.EvReset, "reset", who, thread)
	return all
}

// formOf gives how the events of the kind of a name are told, if there is such a kind.
func formOf(name string) (form, bool) {
	all := forms()
	for kind := api.EvSend; kind <= api.EvReset; kind++ {
		if f := all[kind]; f.name == name {
			return f, true
		}
	}
	return form{}, false
}

// line gives an event of the kind as a line.
func (f form) line(e *api.Event) string {
	line := []byte(f.name)
	for _, each := range f.fields {
		line = append(line, blank...)
		line = each.tell(line, e)
	}
	return string(line)
}

// event gives the event of the kind that words make; of what are no such words, any one.
func (f form) event(words string) api.Event {
	e := api.Event{Kind: f.kind}
	for _, each := range f.fields {
		word, rest, _ := strings.Cut(words, blank)
		each.read(&e, word)
		words = rest
	}
	return e
}
