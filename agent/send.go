package agent

import (
	"slices"
	"strconv"

	"despatch/api"
	"despatch/bundle"
	"despatch/curve"
	"despatch/letter"
	"despatch/pack"
	"despatch/ratchet"
)

// Send writes a mail; it waits to be posted.
func (a *Agent) Send(to, thread string, body []byte, secure bool, fresh api.Key) (string, api.Errno) {
	if !isAddress(to) || !a.mayBeThread(thread) {
		return "", api.ErrForm
	}
	if len(body) > api.MaxBody {
		return "", api.ErrTooLarge
	}
	s, is, code := a.threadTo(to, thread, secure, fresh)
	if code != api.OK {
		return "", code
	}
	c := a.counts()
	c.written++
	e := a.envelope(c.written, to, thread)
	var list []api.Pair
	if is {
		list, code = a.fillSealed(&e, s, body)
	} else {
		e.Plain, e.Cipher = true, body
	}
	if code != api.OK {
		return "", code
	}
	mail, code := bytesOf(e)
	if code != api.OK {
		return "", code
	}
	list = append(list, outPair(api.Outgoing{Number: c.written, To: to, Bytes: mail}), countPair(c))
	if code := a.store.Commit(list); code != api.OK {
		return "", code
	}
	return e.Id, api.OK
}

// threadTo gives the secured thread in which a mail to somebody goes, if it goes in one: a new one, if it must be secured and isn't yet.
func (a *Agent) threadTo(to, thread string, secure bool, fresh api.Key) (s secured, is bool, code api.Errno) {
	s, is = a.threadOf(thread)
	if is && s.other != to {
		return secured{}, false, api.ErrArg
	}
	if is || !secure {
		return s, is, api.OK
	}
	other, known := a.Peer(to)
	if !known {
		return secured{}, false, api.ErrNoRoute
	}
	pair := curve.New(fresh)
	session := ratchet.First(bundle.Begin(a.identity, pair, other), pair, other.Prekey)
	return secured{other: to, session: session, starts: true}, true, api.OK
}

// envelope gives the envelope of the mail of a number, with nothing in it.
func (a *Agent) envelope(number int, to, thread string) api.Envelope {
	id := strconv.Itoa(number) + "." + a.address
	return api.Envelope{From: a.address, To: to, Id: id, Thread: thread, Bundle: bundle.Encode(a.Bundle())}
}

// fillSealed puts an enciphered body into an envelope, and gives what changes of the thread.
func (a *Agent) fillSealed(e *api.Envelope, s secured, body []byte) ([]api.Pair, api.Errno) {
	front := a.front(s)
	next, sealed, code := ratchet.Encrypt(s.session, slices.Concat(pack.Beside(*e), front), body)
	if code != api.OK {
		return nil, code
	}
	s.session = next
	e.Cipher = slices.Concat(front, sealed)
	changed, code := threadPair(e.Thread, s)
	return []api.Pair{changed}, code
}

// front gives what stands ahead of an enciphered mail of a thread.
func (a *Agent) front(s secured) []byte {
	if !s.starts {
		return []byte{noStart}
	}
	// As long as the session doesn't take its own pair is the one that it began with.
	return appendKeys([]byte{withStart}, twoKeys{a.identity.Public, curve.Public(s.session.Own)})
}

// bytesOf gives the bytes of an envelope's mail.
func bytesOf(e api.Envelope) ([]byte, api.Errno) {
	l, code := pack.Write(e)
	if code != api.OK {
		return nil, code
	}
	return letter.Write(l)
}
