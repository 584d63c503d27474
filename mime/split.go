package mime

import (
	"bytes"
	"iter"
	"strings"

	"despatch/api"
)

// blanks are the bytes that may stand behind a boundary on its line.
const blanks = " \t"

// dashes stand ahead of a boundary on its line, and behind it, too, on its last one.
const dashes = "--"

// lineEnd ends a line that is written.
const lineEnd = "\r\n"

// boundarySigns are what a boundary may have beside letters and digits, maxBoundary is how many bytes it has at most.
const (
	boundarySigns = "'()+_,-./:=?"
	maxBoundary   = 70
)

// Split gives what stands between a boundary's lines.
func Split(b []byte, boundary string) ([][]byte, api.Errno) {
	if !Boundary(boundary) {
		return nil, api.ErrArg
	}
	between, last := betweenLine(boundary), lastLine(boundary)
	var list [][]byte
	met, begin := false, 0 // was a boundary's line met, and where does what is behind it begin?
	for at, line := range eachLine(b) {
		text := bytes.TrimRight(withoutEnd(line), blanks)
		parts, ends := string(text) == between, string(text) == last
		if met && (parts || ends) {
			list = append(list, bytes.Clone(withoutEnd(b[begin:at])))
		}
		if met && ends {
			return list, api.OK
		}
		if parts {
			met, begin = true, at+len(line)
		}
	}
	return nil, api.ErrForm
}

// Boundary tells whether a text may be a boundary.
func Boundary(s string) bool {
	for i := range len(s) {
		if !inBoundary(s[i]) {
			return false
		}
	}
	return s != "" && len(s) <= maxBoundary
}

// inBoundary tells whether a boundary may have a byte.
func inBoundary(c byte) bool {
	return c >= 'a' && c <= 'z' || c >= 'A' && c <= 'Z' || c >= '0' && c <= '9' || strings.IndexByte(boundarySigns, c) >= 0
}

// betweenLine gives a boundary's line, without blanks.
func betweenLine(boundary string) string { return dashes + boundary }

// lastLine gives a boundary's last line, without blanks.
func lastLine(boundary string) string { return dashes + boundary + dashes }

// eachLine goes through the lines of bytes, each with its end, if it has one, and where it begins.
func eachLine(b []byte) iter.Seq2[int, []byte] {
	return func(yield func(int, []byte) bool) {
		for at := 0; at < len(b); {
			size := bytes.IndexByte(b[at:], '\n') + 1
			if size == 0 {
				size = len(b) - at
			}
			if !yield(at, b[at:at+size]) {
				return
			}
			at += size
		}
	}
}

// withoutEnd gives bytes without the line's end that they end with, if they do. (A CR alone is none.)
func withoutEnd(b []byte) []byte {
	ahead, ends := bytes.CutSuffix(b, []byte{'\n'})
	if !ends {
		return b
	}
	return bytes.TrimSuffix(ahead, []byte{'\r'})
}
