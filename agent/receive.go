package agent

import (
	"slices"

	"despatch/api"
	"despatch/bundle"
	"despatch/letter"
	"despatch/pack"
	"despatch/ratchet"
)

// What a sealed mail's bytes begin with.
const (
	noStart   = 0
	withStart = 1
)

// cipher is a sealed mail's bytes: what stands ahead of the enciphered mail, the points of the start, if it has one, and the enciphered mail.
type cipher struct {
	front  []byte
	start  twoKeys
	starts bool
	sealed []byte
}

// Receive takes a mail that was fetched.
func (a *Agent) Receive(b []byte, fresh api.Key) api.Errno {
	e, code := a.read(b)
	if code != api.OK {
		return code
	}
	if e.Plain {
		return a.takePlain(e)
	}
	return a.takeSealed(e, fresh)
}

// read gives the envelope of a mail's bytes, if it is for this one, and wasn't delivered yet.
func (a *Agent) read(b []byte) (api.Envelope, api.Errno) {
	l, code := letter.Read(b)
	if code != api.OK {
		return api.Envelope{}, code
	}
	e, code := pack.Read(l)
	if code != api.OK {
		return api.Envelope{}, code
	}
	if e.To != a.address || len(e.From) > maxName || len(e.Thread) > maxName {
		return api.Envelope{}, api.ErrForm
	}
	if _, was := a.store.Get(takenKey(e.From, e.Id)); was {
		return api.Envelope{}, api.ErrOld
	}
	return e, api.OK
}

// takePlain takes a mail that came in the open.
func (a *Agent) takePlain(e api.Envelope) api.Errno {
	if a.Secured(e.Thread) {
		return api.ErrSecured
	}
	return a.deliver(e, e.Cipher, nil)
}

// takeSealed takes a mail that came enciphered.
func (a *Agent) takeSealed(e api.Envelope, fresh api.Key) api.Errno {
	c, is := cutCipher(e.Cipher)
	if !is {
		return api.ErrForm
	}
	session, code := a.sessionOf(e, c)
	if code != api.OK {
		return code
	}
	session, body, code := ratchet.Decrypt(session, slices.Concat(pack.Beside(e), c.front), c.sealed, fresh)
	if code != api.OK {
		return code
	}
	// It takes now, so that the other one knows how it began.
	changed, code := threadPair(e.Thread, secured{other: e.From, session: session})
	if code != api.OK {
		return code
	}
	return a.deliver(e, body, []api.Pair{changed})
}

// sessionOf gives the session by which a sealed mail is deciphered: its thread's, or a new one, by its start.
func (a *Agent) sessionOf(e api.Envelope, c cipher) (api.Session, api.Errno) {
	s, is := a.threadOf(e.Thread)
	switch {
	case is && s.other != e.From:
		return api.Session{}, api.ErrArg
	case is && s.starts && c.starts:
		return api.Session{}, api.ErrThere
	case is:
		return s.session, api.OK
	case !c.starts:
		return api.Session{}, api.ErrNoRoute
	}
	root := bundle.Answer(a.identity, a.prekey, c.start[0], c.start[1])
	return ratchet.Second(root, a.prekey), api.OK
}

// deliver notes a mail with its body, and what changes of its thread.
func (a *Agent) deliver(e api.Envelope, body []byte, thread []api.Pair) api.Errno {
	if len(body) > api.MaxBody {
		return api.ErrTooLarge
	}
	var list []api.Pair
	told, code := bundle.Decode(e.Bundle)
	if _, known := a.Peer(e.From); code == api.OK && !known {
		list = append(list, peerPair(e.From, told))
	}
	c := a.counts()
	note := api.Note{Thread: e.Thread, From: e.From, Id: e.Id, Sealed: !e.Plain, Body: body}
	list = append(list, thread...)
	list = append(list, inPair(c.delivered, note), takenPair(e.From, e.Id))
	c.delivered++
	return a.store.Commit(append(list, countPair(c)))
}

// cutCipher cuts a sealed mail's bytes, if they are such.
func cutCipher(b []byte) (cipher, bool) {
	if len(b) == 0 {
		return cipher{}, false
	}
	switch b[0] {
	case noStart:
		return cipher{front: b[:1], sealed: b[1:]}, true
	case withStart:
		if len(b) <= twoBytes {
			return cipher{}, false
		}
		start, _ := keysIn(b[1 : 1+twoBytes])
		return cipher{front: b[:1+twoBytes], start: start, starts: true, sealed: b[1+twoBytes:]}, true
	}
	return cipher{}, false
}
