package world

import (
	"bytes"
	"slices"
	"strconv"

	"despatch/api"
	"despatch/lines"
	"despatch/number"
	"despatch/rewrite"
	"despatch/talk"
)

// Do does an event.
func (w *World) Do(e api.Event) api.Errno {
	switch e.Kind {
	case api.EvSend, api.EvPost, api.EvFetch, api.EvCrash, api.EvReset:
		if !w.has(e.Who) {
			return api.ErrRange
		}
		return w.doAgent(e)
	case api.EvCarry, api.EvDrop, api.EvRewrite, api.EvCorrupt:
		if len(w.under) == 0 {
			return api.ErrNone
		}
		return w.doMail(number.Modulo(e.N, len(w.under)), e)
	}
	return api.ErrArg
}

// doAgent does an event of somebody that there is.
func (w *World) doAgent(e api.Event) api.Errno {
	switch e.Kind {
	case api.EvSend:
		return w.send(e)
	case api.EvPost:
		return w.post(e.Who)
	case api.EvFetch:
		return w.fetch(e)
	case api.EvCrash:
		return w.crash(e.Who, e.Body)
	}
	return w.members[e.Who].agent.Reset(e.Thread)
}

// doMail does an event of the mail at a place of those under way.
func (w *World) doMail(at int, e api.Event) api.Errno {
	mail := &w.under[at]
	switch e.Kind {
	case api.EvCarry:
		if _, code := w.box.Deliver(folder(mail.To), mail.Bytes); code != api.OK || e.Stays {
			return code
		}
		fallthrough
	case api.EvDrop:
		w.under = slices.Delete(w.under, at, at+1)
	case api.EvRewrite:
		mail.Bytes = rewrite.Apply(mail.Bytes, e.Rewrite)
	case api.EvCorrupt:
		if size := len(mail.Bytes); size > 0 {
			mail.Bytes[number.Modulo(e.M, size)] ^= e.Turn
		}
	}
	return api.OK
}

// send lets somebody write a mail, and notes it.
func (w *World) send(e api.Event) api.Errno {
	a := w.members[e.Who].agent
	id, code := a.Send(Name(e.To), e.Thread, e.Body, e.Secure, e.Fresh)
	if code != api.OK {
		return code
	}
	w.sent = append(w.sent, api.Sent{
		From:   Name(e.Who),
		To:     Name(e.To),
		Id:     id,
		Thread: e.Thread,
		// A mail is Plain just where its thread isn't secured when it is written.
		Sealed: a.Secured(e.Thread),
		Body:   bytes.Clone(e.Body),
	})
	return api.OK
}

// post posts the first mail that waits at somebody's.
func (w *World) post(who int) api.Errno {
	a := w.members[who].agent
	waiting := a.Outbox()
	if len(waiting) == 0 {
		return api.ErrNone
	}
	mail := waiting[0]
	said, code := talk.Send(api.Posted{From: Name(who), To: []string{mail.To}, Bytes: mail.Bytes})
	if code != api.OK {
		return code
	}
	p := talk.NewPost()
	p.Feed(said)
	// With an error nothing changes: so what may have one is done ahead of the rest.
	if code := a.Posted(mail.Number); code != api.OK {
		return code
	}
	for _, taken := range p.Mails() {
		w.start(taken)
	}
	return api.OK
}

// start puts a mail that was posted under way to each one whose address it is for.
func (w *World) start(mail api.Posted) {
	for n := range w.members {
		if slices.Contains(mail.To, Name(n)) {
			w.under = append(w.under, api.Under{To: n, Bytes: bytes.Clone(mail.Bytes)})
		}
	}
}

// fetch lets somebody fetch a mail, and take it.
func (w *World) fetch(e api.Event) api.Errno {
	from := folder(e.Who)
	uids := w.box.List(from)
	if len(uids) == 0 {
		return api.ErrNone
	}
	uid := uids[number.Modulo(e.N, len(uids))]
	code := w.members[e.Who].agent.Receive(w.fetched(from, uid), e.Fresh)
	flag := api.FlagTaken
	if code != api.OK {
		flag = api.FlagSeen
	}
	w.mark(from, uid, flag)
	return code
}

// fetched gives a folder's mail as it comes over a line.
func (w *World) fetched(from string, uid int) []byte {
	d := talk.NewDesk(w.box)
	d.Ask("SELECT " + from)
	told := d.Ask("FETCH " + strconv.Itoa(uid))
	// Ahead of the mail a line tells of its flags.
	_, stuffed, _ := bytes.Cut(told, []byte("\r\n"))
	mail, _, _ := lines.Unstuff(stuffed)
	return mail
}

// mark gives a folder's mail a flag in addition to those that it has.
func (w *World) mark(from string, uid, flag int) {
	// There is the mail, and it stays as long as it is: so there is room for it, and no error.
	mail, _ := w.box.Fetch(from, uid)
	w.box.Mark(from, uid, mail.Flags|flag)
}

// crash lets the power of somebody's disk go, and opens the agent again.
func (w *World) crash(who int, picks []byte) api.Errno {
	m := w.members[who]
	m.disk.Crash(picks)
	again, code := openAgent(m.disk, who)
	if code != api.OK {
		return code
	}
	// In the place of the one that there was, so that whoever holds that doesn't go on with what the disk had.
	*m.agent = *again
	return api.OK
}
