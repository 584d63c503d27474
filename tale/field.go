package tale

import (
	"strconv"
	"strings"

	"despatch/api"
)

// digits are what bytes are told by, digitBits bits by each.
const (
	digits    = "0123456789abcdef"
	digitBits = 4
	digitMask = 1<<digitBits - 1
)

// byteDigits is how many digits a byte has.
const byteDigits = 2

// noBytes is told where there are none.
const noBytes = "-"

// How yes and no are told.
const (
	yes = "1"
	no  = "0"
)

// field is a field of events: tell puts it behind a line, read makes it what a word tells, and of what is no such word anything.
type field struct {
	tell func(line []byte, e *api.Event) []byte
	read func(e *api.Event, word string)
}

// number gives a field that is a number.
func number(of func(e *api.Event) *int) field {
	return field{
		tell: func(line []byte, e *api.Event) []byte { return strconv.AppendInt(line, int64(*of(e)), 10) },
		read: func(e *api.Event, word string) { *of(e) = numberOf(word) },
	}
}

// small gives a field that is a number from 0 to 255.
func small(of func(e *api.Event) *byte) field {
	return field{
		tell: func(line []byte, e *api.Event) []byte { return strconv.AppendInt(line, int64(*of(e)), 10) },
		read: func(e *api.Event, word string) { *of(e) = byte(numberOf(word)) },
	}
}

// yesNo gives a field that is yes or no.
func yesNo(of func(e *api.Event) *bool) field {
	return field{
		tell: func(line []byte, e *api.Event) []byte {
			if *of(e) {
				return append(line, yes...)
			}
			return append(line, no...)
		},
		read: func(e *api.Event, word string) { *of(e) = word == yes },
	}
}

// text gives a field that is a text, or bytes.
func text[T string | []byte](of func(e *api.Event) *T) field {
	return field{
		tell: func(line []byte, e *api.Event) []byte { return appendBytes(line, []byte(*of(e))) },
		read: func(e *api.Event, word string) { *of(e) = T(bytesOf(word)) },
	}
}

// key gives a field that is a key.
func key(of func(e *api.Event) *api.Key) field {
	return field{
		tell: func(line []byte, e *api.Event) []byte { return appendBytes(line, of(e)[:]) },
		read: func(e *api.Event, word string) { copy(of(e)[:], bytesOf(word)) },
	}
}

// numberOf gives the number that a word tells; of what is no such word, any one.
func numberOf(word string) int {
	n, _ := strconv.Atoi(word)
	return n
}

// bytesOf gives the bytes that a word tells; of what is no such word, any ones.
func bytesOf(word string) []byte {
	var b []byte
	for len(word) >= byteDigits {
		b = append(b, digitOf(word[0])<<digitBits|digitOf(word[1]))
		word = word[byteDigits:]
	}
	return b
}

// digitOf gives what a digit tells; of what is none, any number.
func digitOf(c byte) byte { return byte(strings.IndexByte(digits, c)) }

// appendBytes gives a line with the word that tells bytes behind it.
func appendBytes(line, b []byte) []byte {
	if len(b) == 0 {
		return append(line, noBytes...)
	}
	for _, c := range b {
		line = append(line, digits[c>>digitBits], digits[c&digitMask])
	}
	return line
}
