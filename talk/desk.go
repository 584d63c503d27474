package talk

import (
	"strconv"
	"strings"

	"despatch/api"
	"despatch/box"
	"despatch/field"
	"despatch/lines"
)

// How a desk's last lines begin.
const (
	endsOk  = "OK"
	endsBad = "BAD"
	endsNo  = "NO"
)

// item is what each line ahead of the last one begins with.
const item = "*"

// mostWords is how many words a command has at most.
const mostWords = 3

// mostDigits is how many digits a number has at most.
const mostDigits = 10

// Desk lets mails of a box be fetched over a line.
type Desk struct {
	box    *box.Box
	folder string // of no bytes, as long as there is none
}

// deed does a command with numbers, and gives what is answered ahead of the last line.
type deed func(numbers []int) ([]byte, api.Errno)

// NewDesk gives a Desk of a box.
func NewDesk(b *box.Box) *Desk { return &Desk{box: b} }

// Ask gives what is answered to a command.
func (d *Desk) Ask(command string) []byte {
	words := strings.SplitN(command, blank, mostWords+1)
	if len(words) == 2 && field.Same(words[0], "SELECT") {
		return ending(d.choose(words[1]))
	}
	numbers, right := numbersOf(words[1:])
	do := d.deedOf(words[0], len(numbers))
	switch {
	case !right || do == nil:
		return []byte(endsBad + lineEnd)
	case d.folder == "":
		return ending(nil, api.ErrNone)
	}
	return ending(do(numbers))
}

// deedOf gives what does the command of a word with so many numbers behind it; nil, if there is none.
func (d *Desk) deedOf(word string, numbers int) deed {
	for _, known := range []struct {
		word    string
		numbers int
		do      deed
	}{
		{"LIST", 0, d.list},
		{"FETCH", 1, d.fetch},
		{"STORE", 2, d.mark},
		{"EXPUNGE", 0, d.expunge},
	} {
		if field.Same(word, known.word) && numbers == known.numbers {
			return known.do
		}
	}
	return nil
}

// choose makes a folder that of the desk.
func (d *Desk) choose(folder string) ([]byte, api.Errno) {
	if !box.Folder(folder) {
		return nil, api.ErrArg
	}
	d.folder = folder
	return []byte(item + " EXISTS " + strconv.Itoa(len(d.box.List(folder))) + lineEnd), api.OK
}

// list tells the numbers of the folder's mails.
func (d *Desk) list([]int) ([]byte, api.Errno) { return listed(d.box.List(d.folder)), api.OK }

// fetch tells a mail.
func (d *Desk) fetch(numbers []int) ([]byte, api.Errno) {
	mail, code := d.box.Fetch(d.folder, numbers[0])
	if code != api.OK {
		return nil, code
	}
	head := item + " FLAGS " + strconv.Itoa(mail.Flags) + " SIZE " + strconv.Itoa(len(mail.Bytes)) + lineEnd
	return append([]byte(head), lines.Stuff(mail.Bytes)...), api.OK
}

// mark gives a mail other flags.
func (d *Desk) mark(numbers []int) ([]byte, api.Errno) {
	return nil, d.box.Mark(d.folder, numbers[0], numbers[1])
}

// expunge takes out the mails that are to be deleted, and tells their numbers.
func (d *Desk) expunge([]int) ([]byte, api.Errno) {
	gone, code := d.box.Expunge(d.folder)
	if code != api.OK {
		return nil, code
	}
	return listed(gone), api.OK
}

// ending gives an answer with its last line: that alone, if there was an error.
func ending(told []byte, code api.Errno) []byte {
	if code != api.OK {
		return []byte(endsNo + blank + strconv.Itoa(int(code)) + lineEnd)
	}
	return append(told, endsOk+lineEnd...)
}

// listed gives the line that tells numbers.
func listed(numbers []int) []byte {
	line := []byte(item)
	for _, n := range numbers {
		line = strconv.AppendInt(append(line, blank...), int64(n), 10)
	}
	return append(line, lineEnd...)
}

// numbersOf gives the numbers that words are, if all of them are.
func numbersOf(words []string) ([]int, bool) {
	var numbers []int
	for _, word := range words {
		n, err := strconv.Atoi(word)
		// A sign, and a nought ahead, aren't there when it is written again.
		if err != nil || n < 0 || len(word) > mostDigits || strconv.Itoa(n) != word {
			return nil, false
		}
		numbers = append(numbers, n)
	}
	return numbers, true
}
