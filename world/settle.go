package world

import (
	"despatch/api"
	"despatch/hash"
	"despatch/number"
)

// maxRounds is how many times all is gone through until it has settled.
const maxRounds = 200

// countBytes is how many bytes tell which fetch it is.
const countBytes = 4

// Settle lets all mails arrive.
func (w *World) Settle(seed api.Key) {
	next := keysBy(seed)
rounds:
	for range maxRounds {
		for _, changes := range [...]int{w.postAll(), w.carryAll(), w.fetchAll(next)} {
			if changes > 0 {
				continue rounds
			}
		}
		break rounds
	}
}

// postAll posts what waits, and tells how many mails that were.
func (w *World) postAll() int {
	posted := 0
	for n := range w.members {
		posted += w.repeat(api.Event{Kind: api.EvPost, Who: n})
	}
	return posted
}

// carryAll carries what is under way, and tells how many mails that were.
func (w *World) carryAll() int { return w.repeat(api.Event{Kind: api.EvCarry}) }

// repeat does an event as long as it is OK, and tells how many times that was. Where there is nothing any more it isn't.
func (w *World) repeat(e api.Event) int {
	times := 0
	for w.Do(e) == api.OK {
		times++
	}
	return times
}

// fetchAll lets everybody fetch the mails that have no flags, each with the next key, and tells how many that were: each has flags then.
func (w *World) fetchAll(next func() api.Key) int {
	fetched := 0
	for n := range w.members {
		for at, mail := range w.Inbox(n) {
			if mail.Flags == 0 {
				w.Do(api.Event{Kind: api.EvFetch, Who: n, N: at, Fresh: next()})
				fetched++
			}
		}
	}
	return fetched
}

// keysBy gives what gives a seed's keys, one behind the other.
func keysBy(seed api.Key) func() api.Key {
	k := uint64(0)
	return func() api.Key {
		key := hash.Hmac(seed[:], number.Append(nil, k, countBytes))
		k++
		return key
	}
}
