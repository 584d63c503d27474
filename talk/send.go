package talk

import (
	"slices"

	"despatch/api"
	"despatch/lines"
)

// ownName is who one says one is.
const ownName = "despatch"

// Send gives the talk that posts a mail.
func Send(m api.Posted) ([]byte, api.Errno) {
	if !postable(m) {
		return nil, api.ErrForm
	}
	if len(m.To) == 0 || len(m.To) > api.MaxTo {
		return nil, api.ErrRange
	}
	mail, code := stuffed(m.Bytes)
	if code != api.OK {
		return nil, code
	}
	talk := wordGreet + blank + ownName + lineEnd
	talk += addressed(wordSender, m.From) + lineEnd
	for _, to := range m.To {
		talk += addressed(wordRecipient, to) + lineEnd
	}
	talk += wordData + lineEnd
	return slices.Concat([]byte(talk), mail, []byte(wordQuit+lineEnd)), api.OK
}

// postable tells whether all of a mail's addresses are such, and fit on lines.
func postable(m api.Posted) bool {
	if !fits(wordSender, m.From) {
		return false
	}
	for _, to := range m.To {
		if !fits(wordRecipient, to) {
			return false
		}
	}
	return true
}

// fits tells whether a text is an address that a command's line has room for.
func fits(word, address string) bool {
	return len(addressed(word, address)) <= api.MaxCommand && isAddress(address)
}

// addressed gives the line of a command with an address.
func addressed(word, address string) string { return word + opens + address + closes }

// stuffed gives a mail as it is told, if it hasn't more bytes than may be when it is taken.
func stuffed(mail []byte) ([]byte, api.Errno) {
	// Its lines, made whole, are never fewer bytes: of a mail too large already they needn't be made.
	if len(mail) > api.MaxMail {
		return nil, api.ErrTooLarge
	}
	told := lines.Stuff(mail)
	taken, _, _ := lines.Unstuff(told)
	if len(taken) > api.MaxMail {
		return nil, api.ErrTooLarge
	}
	return told, api.OK
}
