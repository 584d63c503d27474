package rewrite

import (
	"bytes"
	"slices"

	"despatch/field"
)

// encoding is the value of the field encodingField, of a mail or of a part, whose body is armor.
const encoding = "base64"

// dashes begin each line that parts a body.
const dashes = "--"

// maxWidth is how many bytes a line has at most when armor is cut anew.
const maxWidth = 76

// What a line of a body that may have parts stands in.
const (
	inNothing = iota
	inHead    // a part's head, as far as dashes tell
	inTold    // such a head, behind a line that tells of armor
	inArmor
)

// wrap cuts the armor of a mail's body anew, in lines of a width.
func (m *mail) wrap(width int) {
	if !allArmor(m.fields) {
		m.body = wrapParts(m.body, width)
		return
	}
	armor, _ := joined(m.body)
	m.body = cut(nil, armor, width)
}

// allArmor tells whether a mail with some fields has armor as its body.
func allArmor(fields [][]byte) bool {
	is := named(encodingField)
	at := slices.IndexFunc(fields, func(f []byte) bool { return is(nameOf(f)) })
	if at < 0 {
		return false
	}
	_, value, _ := bytes.Cut(fields[at], []byte(colon))
	return field.Same(dense(value), encoding)
}

// wrapParts gives a body of parts, in which the parts' armor is cut anew.
func wrapParts(body []byte, width int) []byte {
	var made, armor []byte
	place := inNothing
	for text, end := range linesOf(body) {
		ahead := place
		place = next(ahead, text)
		if ahead == inArmor && place == inArmor {
			armor = append(armor, text...)
			continue
		}
		if ahead == inArmor {
			made = append(cut(made, armor, width), lineEnd...)
			armor = nil
		}
		made = append(made, text...)
		made = append(made, end...)
	}
	return cut(made, armor, width)
}

// next gives what the line behind a line stands in, that line itself standing in something.
func next(place int, text []byte) int {
	switch {
	case bytes.HasPrefix(text, []byte(dashes)):
		return inHead
	case place == inHead && len(text) == 0:
		return inNothing
	case place == inTold && len(text) == 0:
		return inArmor
	case place == inHead && field.Same(dense(text), encodingField+colon+encoding):
		return inTold
	}
	return place
}

// cut puts armor behind what was made, in lines of a width.
func cut(made, armor []byte, width int) []byte {
	for line := range slices.Chunk(armor, width) {
		made = append(made, line...)
		made = append(made, lineEnd...)
	}
	return made
}

// dense gives bytes without blanks, and without what ends lines.
func dense(b []byte) string {
	var made []byte
	for _, c := range b {
		if !blank(c) && c != '\r' && c != '\n' {
			made = append(made, c)
		}
	}
	return string(made)
}
