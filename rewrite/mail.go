package rewrite

import (
	"bytes"
	"iter"
	"slices"
)

// What stands behind a name, and behind a line that is written.
const (
	colon   = ":"
	lineEnd = "\r\n"
)

// mail is a mail as lines, all as they came: its fields, and what is behind them.
type mail struct {
	fields [][]byte // each is its lines, one behind the other
	gap    []byte   // the line without bytes behind the head: its end
	body   []byte
}

// mailOf gives the mail of bytes, without fields if its first line begins with a blank; false, if there is no line without bytes.
func mailOf(b []byte) (m mail, ended bool) {
	at := 0
	for text, end := range linesOf(b) {
		if len(text) == 0 {
			return mail{fields: fieldsOf(b[:at]), gap: end, body: b[at+len(end):]}, true
		}
		at += len(text) + len(end)
	}
	return mail{}, false
}

// written gives a mail's bytes.
func (m *mail) written() []byte {
	return slices.Concat(slices.Concat(m.fields...), m.gap, m.body)
}

// fieldsOf gives the fields of a head, none of whose lines is without bytes.
func fieldsOf(head []byte) [][]byte {
	var fields [][]byte
	at := 0
	for text, end := range linesOf(head) {
		if !blank(text[0]) {
			fields = append(fields, head[at:at])
		}
		last := len(fields) - 1
		if last < 0 {
			return nil
		}
		at += len(text) + len(end)
		// A field's lines stand one behind the other, so that it goes on up to this one's end.
		fields[last] = fields[last][:len(fields[last])+len(text)+len(end)]
	}
	return fields
}

// nameOf gives a field's name: no bytes, if its first line tells none.
func nameOf(f []byte) string {
	first, _, _ := bytes.Cut(f, []byte{'\n'})
	name, _, found := bytes.Cut(first, []byte(colon))
	if !found {
		return ""
	}
	return string(name)
}

// joined gives lines as one, without their ends, and the end of the last one.
func joined(b []byte) (line, lastEnd []byte) {
	for text, end := range linesOf(b) {
		line, lastEnd = append(line, text...), end
	}
	return line, lastEnd
}

// linesOf goes through the lines of bytes, each with its end beside it; the last one may have none.
func linesOf(b []byte) iter.Seq2[[]byte, []byte] {
	return func(yield func(text, end []byte) bool) {
		for line := range bytes.Lines(b) {
			if text := textOf(line); !yield(text, line[len(text):]) {
				return
			}
		}
	}
}

// textOf gives a line without its end.
func textOf(line []byte) []byte {
	text, ended := bytes.CutSuffix(line, []byte{'\n'})
	if !ended {
		return line
	}
	return bytes.TrimSuffix(text, []byte{'\r'})
}

// blank tells whether a byte is one that a line that goes a field on begins with.
func blank(c byte) bool { return c == ' ' || c == '\t' }
