package agent

import (
	"bytes"
	"strconv"
	"strings"

	"despatch/api"
	"despatch/bundle"
	"despatch/number"
	"despatch/ratchet"
)

// The keys of what an agent knows, and what those begin with of which there are many.
const (
	meKey       = "me"
	countKey    = "n"
	peerFront   = "k:"
	threadFront = "t:"
	outFront    = "o:"
	inFront     = "i:"
	takenFront  = "g:"
)

// What stands ahead of a thread: whether a start goes along with its mails.
const (
	startSign   = 'S'
	noStartSign = 'N'
)

// What stands ahead of a mail that was delivered: how it came.
const (
	sealedSign = 'S'
	plainSign  = 'P'
)

// digits is how many digits a number has in a key, so that keys rise as their numbers do.
const digits = 10

// countBytes is how many bytes tell how many mails there were.
const countBytes = 4

// end stands behind a text in a value.
const end = '\n'

// taken is the value of those keys that say all by being there.
const taken = 1

// twoBytes is how many bytes two keys have.
const twoBytes = 2 * api.KeyBytes

// twoKeys are the numbers of somebody's two pairs, or two points.
type twoKeys [2]api.Key

// counts are how many mails were written, and how many were delivered.
type counts struct{ written, delivered int }

// secured is what is known of a secured thread: who the other one is, its session, and whether a start goes along with its mails.
type secured struct {
	other   string
	session api.Session
	starts  bool
}

// keysIn gives the two keys that bytes are, if they are as many.
func keysIn(b []byte) (twoKeys, bool) {
	if len(b) != twoBytes {
		return twoKeys{}, false
	}
	return twoKeys{api.Key(b[:api.KeyBytes]), api.Key(b[api.KeyBytes:])}, true
}

// appendKeys gives bytes with those of two keys behind them.
func appendKeys(b []byte, keys twoKeys) []byte {
	for _, k := range keys {
		b = append(b, k[:]...)
	}
	return b
}

// appendText gives bytes with a text behind them, and what tells where it ends.
func appendText(b []byte, s string) []byte {
	b = append(b, s...)
	return append(b, end)
}

// cutText gives a text that bytes begin with, and what is behind its end, if it has one.
func cutText(b []byte) (s string, rest []byte, ended bool) {
	at := bytes.IndexByte(b, end)
	if at < 0 {
		return "", nil, false
	}
	return string(b[:at]), b[at+1:], true
}

// mePair gives the pair that tells who an agent is: its address, and the numbers of its pairs.
func mePair(address string, keys twoKeys) api.Pair {
	return api.Pair{Key: meKey, Value: appendKeys(appendText(nil, address), keys)}
}

// readMe gives what a value tells of who an agent is, if it does.
func readMe(value []byte) (address string, keys twoKeys, is bool) {
	address, rest, ended := cutText(value)
	keys, is = keysIn(rest)
	return address, keys, ended && is
}

// peerKey gives the key of the bundle that is known of somebody.
func peerKey(address string) string { return peerFront + address }

// peerPair gives the pair of a bundle that is known of somebody.
func peerPair(address string, b api.Bundle) api.Pair {
	return api.Pair{Key: peerKey(address), Value: bundle.Encode(b)}
}

// threadKey gives the key of a thread.
func threadKey(id string) string { return threadFront + id }

// threadPair gives the pair of a secured thread.
func threadPair(id string, s secured) (api.Pair, api.Errno) {
	session, code := ratchet.Encode(s.session)
	if code != api.OK {
		return api.Pair{}, code
	}
	sign := byte(noStartSign)
	if s.starts {
		sign = startSign
	}
	return api.Pair{Key: threadKey(id), Value: append(appendText([]byte{sign}, s.other), session...)}, api.OK
}

// readThread gives the secured thread that a value tells, if it does.
func readThread(value []byte) (secured, bool) {
	text, rest, ended := cutText(value)
	session, code := ratchet.Decode(rest)
	if !ended || text == "" || code != api.OK {
		return secured{}, false
	}
	return secured{other: text[1:], session: session, starts: text[0] == startSign}, true
}

// outKey gives the key of a mail that waits to be posted.
func outKey(number int) string { return outFront + tenDigits(number) }

// outPair gives the pair of a mail that waits to be posted.
func outPair(mail api.Outgoing) api.Pair {
	return api.Pair{Key: outKey(mail.Number), Value: append(appendText(nil, mail.To), mail.Bytes...)}
}

// readOut gives the mail that waits to be posted of which a key and a value tell, if they do.
func readOut(key string, value []byte) (api.Outgoing, bool) {
	number, err := strconv.Atoi(strings.TrimPrefix(key, outFront))
	to, mail, ended := cutText(value)
	if err != nil || !ended {
		return api.Outgoing{}, false
	}
	return api.Outgoing{Number: number, To: to, Bytes: mail}, true
}

// inPair gives the pair of a mail that was delivered as that of a number.
func inPair(number int, n api.Note) api.Pair {
	sign := byte(plainSign)
	if n.Sealed {
		sign = sealedSign
	}
	value := []byte{sign}
	for _, s := range [...]string{n.Thread, n.From, n.Id} {
		value = appendText(value, s)
	}
	return api.Pair{Key: inFront + tenDigits(number), Value: append(value, n.Body...)}
}

// readIn gives the mail that was delivered of which a value tells, if it does.
func readIn(value []byte) (api.Note, bool) {
	if len(value) == 0 {
		return api.Note{}, false
	}
	n := api.Note{Sealed: value[0] == sealedSign, Body: value[1:]}
	for _, s := range [...]*string{&n.Thread, &n.From, &n.Id} {
		text, rest, ended := cutText(n.Body)
		if !ended {
			return api.Note{}, false
		}
		*s, n.Body = text, rest
	}
	return n, true
}

// takenKey gives the key that tells that a mail of such an id from somebody was delivered.
func takenKey(from, id string) string { return takenFront + from + string(end) + id }

// takenPair gives the pair that tells so.
func takenPair(from, id string) api.Pair {
	return api.Pair{Key: takenKey(from, id), Value: []byte{taken}}
}

// countPair gives the pair that tells how many mails there were.
func countPair(c counts) api.Pair {
	value := number.Append(nil, uint64(c.written), countBytes)
	return api.Pair{Key: countKey, Value: number.Append(value, uint64(c.delivered), countBytes)}
}

// readCounts gives how many mails there were by a value: none, if it doesn't tell so.
func readCounts(value []byte) counts {
	if len(value) != 2*countBytes {
		return counts{}
	}
	return counts{int(number.Read(value[:countBytes])), int(number.Read(value[countBytes:]))}
}

// tenDigits gives a number in ten digits. Of one below 0, of which there are no mails, it gives a text that is none such.
func tenDigits(n int) string {
	told := strconv.Itoa(n)
	return strings.Repeat("0", max(0, digits-len(told))) + told
}
