package token

import (
	"strings"

	"despatch/api"
)

// Params gives a value's kind, and its parameters.
func Params(s string) (kind string, list []api.Param, code api.Errno) {
	bare, code := Bare(s)
	if code != api.OK {
		return "", nil, code
	}
	inAtom := printed(notInAtom)
	kind, rest := part(bare, func(c byte) bool { return inAtom(c) || c == slash[0] })
	if !isKind(kind) {
		return "", nil, api.ErrForm
	}
	for rest != "" {
		p, behind, ok := param(rest)
		if !ok {
			return "", nil, api.ErrForm
		}
		list = append(list, p)
		rest = behind
	}
	return strings.ToLower(kind), list, api.OK
}

// Write gives a value of a kind, and of parameters.
func Write(kind string, list []api.Param) (string, api.Errno) {
	if !isKind(kind) || !noBig(kind) {
		return "", api.ErrForm
	}
	text := []byte(kind)
	for _, p := range list {
		if !Atom(p.Name) || !noBig(p.Name) || !mayBeQuoted(p.Value) {
			return "", api.ErrForm
		}
		text = append(text, "; "...)
		text = append(text, p.Name...)
		text = append(text, '=')
		text = addValue(text, p.Value)
	}
	return string(text), api.OK
}

// isKind tells whether a text is a kind: two atoms, and a stroke between.
func isKind(s string) bool {
	first, second, found := strings.Cut(s, slash)
	return found && Atom(first) && Atom(second)
}

// noBig tells whether a text has no big letters.
func noBig(s string) bool {
	return run(s, func(c byte) bool { return c < 'A' || c > 'Z' }) == len(s)
}

// mayBeQuoted tells whether a quoted text can tell each byte of a text.
func mayBeQuoted(s string) bool {
	return run(s, func(c byte) bool { return c >= ' ' && c <= '~' || c == '\t' }) == len(s)
}

// part gives the bytes that may be, behind the blanks at the beginning, and what is behind these and their blanks.
func part(s string, may func(c byte) bool) (told, rest string) {
	s = strings.TrimLeft(s, blanks)
	size := run(s, may)
	return s[:size], strings.TrimLeft(s[size:], blanks)
}

// param gives the parameter at the beginning, with what stands ahead of it, and what is behind.
func param(s string) (p api.Param, rest string, ok bool) {
	s, begins := strings.CutPrefix(s, ";")
	name, s := part(s, printed(notInAtom))
	s, goesOn := strings.CutPrefix(s, "=")
	value, rest, ok := readValue(s)
	if !begins || name == "" || !goesOn || !ok {
		return api.Param{}, "", false
	}
	return api.Param{Name: strings.ToLower(name), Value: value}, rest, true
}

// readValue gives the parameter's value at the beginning, quoted or not, and what is behind.
func readValue(s string) (value, rest string, ok bool) {
	value, rest = part(s, printed(notInWord))
	if value != "" {
		return value, rest, true
	}
	size := quoted(rest)
	if size == 0 || rest[0] != quote {
		return "", "", false
	}
	inside := rest[1 : size-1]
	return unquoted(inside), strings.TrimLeft(rest[size:], blanks), mayBeQuoted(inside)
}

// unquoted gives what the inside of a quoted text tells.
func unquoted(inside string) string {
	told := make([]byte, 0, len(inside))
	for i := 0; i < len(inside); i++ {
		if inside[i] == escape {
			i++
		}
		told = append(told, inside[i])
	}
	return string(told)
}

// addValue puts a parameter's value behind a text, quoted only if it must be.
func addValue(text []byte, value string) []byte {
	if made(value, printed(notInWord)) {
		return append(text, value...)
	}
	text = append(text, quote)
	for i := range len(value) {
		if value[i] == quote || value[i] == escape {
			text = append(text, escape)
		}
		text = append(text, value[i])
	}
	return append(text, quote)
}
