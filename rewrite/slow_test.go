package rewrite

import (
	"regexp"
	"slices"
	"strings"

	"despatch/api"
)

// What follows does what the chapter tells, with regular expressions and texts, as slowly as it is.

var (
	gapForm     = regexp.MustCompile(`(?:\A|\n)(\r?\n)`)
	fieldForm   = regexp.MustCompile(`[^ \t\n][^\n]*\n(?:[ \t][^\n]*\n)*`)
	nameForm    = regexp.MustCompile(`\A([^:\n]*):`)
	valueForm   = regexp.MustCompile(`\A(?:[!-~](?:[\t -~]*[!-~])?)?\z`)
	goesOn      = regexp.MustCompile(`\r?\n([ \t])`)
	blankBehind = regexp.MustCompile(`[^ \t][ \t]`)
	endForm     = regexp.MustCompile(`\r?\n\z`)
	blanksForm  = regexp.MustCompile(`[ \t\r]`)
	armoredForm = regexp.MustCompile(`\A[cC][oO][nN][tT][eE][nN][tT]-[tT][rR][aA][nN][sS][fF][eE][rR]-[eE][nN][cC][oO][dD][iI][nN][gG]:[bB][aA][sS][eE]64\z`)
)

// mustStay are the names of what RwDrop leaves.
var mustStay = []string{"from", "to", "message-id", "x-thread", "x-keys", "content-type", "content-transfer-encoding"}

// from0 gives a number modulo another one, from 0 on.
func from0(n, of int) int {
	if n %= of; n < 0 {
		n += of
	}
	return n
}

// one tells whether the bit of a number is 1.
func one(m, place int) bool { return uint64(m)&(1<<(place%16)) != 0 }

// slowApply is Apply.
func slowApply(s string, x api.Rewrite) string {
	switch x.Kind {
	case api.RwBare:
		return strings.ReplaceAll(s, "\r\n", "\n")
	case api.RwWhole:
		made := ""
		for i := range len(s) {
			if s[i] == '\n' && (i == 0 || s[i-1] != '\r') {
				made += "\r"
			}
			made += s[i : i+1]
		}
		return made
	}
	at := gapForm.FindStringSubmatchIndex(s)
	if at == nil {
		return s
	}
	if x.Kind == api.RwAdd {
		if len(x.Text) > 200 || !valueForm.MatchString(x.Text) {
			return s
		}
		return []string{"Received", "X-Trace", "Date"}[from0(x.M, 3)] + ": " + x.Text + "\r\n" + s
	}
	head, gap, body := s[:at[2]], s[at[2]:at[3]], s[at[3]:]
	if head == "" || strings.ContainsAny(head[:1], " \t") {
		return s
	}
	fields := fieldForm.FindAllString(head, -1)
	if strings.Join(fields, "") != head {
		panic(s)
	}
	if x.Kind == api.RwWrap {
		return head + gap + slowWrap(fields, body, from0(x.M, 76)+1)
	}
	return strings.Join(slowChange(fields, x), "") + gap + body
}

// slowName gives a field's name.
func slowName(f string) string {
	if m := nameForm.FindStringSubmatch(f); m != nil {
		return m[1]
	}
	return ""
}

// slowChange does what is done to fields.
func slowChange(fields []string, x api.Rewrite) []string {
	n := from0(x.N, len(fields))
	f := fields[n]
	switch x.Kind {
	case api.RwFold:
		fields[n] = slowFold(f, x.M)
	case api.RwCase:
		fields[n] = slowCase(f, x.M)
	case api.RwDrop:
		if !slices.Contains(mustStay, smalls(slowName(f))) {
			fields[n] = ""
		}
	case api.RwOrder:
		if n+1 < len(fields) && smalls(slowName(f)) != smalls(slowName(fields[n+1])) {
			fields[n], fields[n+1] = fields[n+1], f
		}
	}
	return fields
}

// Letters, big and small.
const (
	bigs    = "ABCDEFGHIJKLMNOPQRSTUVWXYZ"
	littles = "abcdefghijklmnopqrstuvwxyz"
)

// turn gives a text whose letters of one row are those of another one.
func turn(s, from, to string) string {
	made := []byte(s)
	for i := range made {
		if at := strings.IndexByte(from, made[i]); at >= 0 {
			made[i] = to[at]
		}
	}
	return string(made)
}

// smalls gives a text with small letters.
func smalls(s string) string { return turn(s, bigs, littles) }

// slowFold folds a field anew.
func slowFold(f string, m int) string {
	f = goesOn.ReplaceAllString(f, "$1")
	at := strings.Index(f, ":") + 1
	if at == 0 {
		return f
	}
	place := -1
	return f[:at] + blankBehind.ReplaceAllStringFunc(f[at:], func(s string) string {
		place++
		if one(m, place) {
			return s[:len(s)-1] + "\r\n" + s[len(s)-1:]
		}
		return s
	})
}

// slowCase changes a name's letters.
func slowCase(f string, m int) string {
	made := ""
	name := slowName(f)
	for k := range len(name) {
		if one(m, k) {
			made += turn(name[k:k+1], littles, bigs)
		} else {
			made += smalls(name[k : k+1])
		}
	}
	return made + f[len(name):]
}

// slowWrap cuts a body's armor anew: of each line it is asked whether armor begins behind it.
func slowWrap(fields []string, body string, w int) string {
	list := strings.SplitAfter(body, "\n")
	if list[len(list)-1] == "" {
		list = list[:len(list)-1]
	}
	for _, f := range fields {
		if name := slowName(f); smalls(name) == "content-transfer-encoding" {
			value := regexp.MustCompile(`[ \t\r\n]`).ReplaceAllString(f[len(name)+1:], "")
			if smalls(value) == "base64" {
				return slowCut(list, w)
			}
			break
		}
	}
	made := ""
	for i := 0; i < len(list); i++ {
		made += list[i]
		if !armorBehind(list, i) {
			continue
		}
		end := i + 1
		for end < len(list) && !strings.HasPrefix(list[end], "--") {
			end++
		}
		made += slowCut(list[i+1:end], w)
		if end < len(list) {
			made += "\r\n"
		}
		i = end - 1
	}
	return made
}

// armorBehind tells whether armor begins behind a line.
func armorBehind(list []string, i int) bool {
	if endForm.ReplaceAllString(list[i], "") != "" {
		return false
	}
	tells := false
	for j := i - 1; j >= 0; j-- {
		text := endForm.ReplaceAllString(list[j], "")
		switch {
		case strings.HasPrefix(text, "--"):
			return tells
		case text == "":
			return false
		}
		tells = tells || armoredForm.MatchString(blanksForm.ReplaceAllString(text, ""))
	}
	return false
}

// slowCut cuts lines anew.
func slowCut(list []string, w int) string {
	all, made := "", ""
	for _, line := range list {
		all += endForm.ReplaceAllString(line, "")
	}
	for all != "" {
		n := min(w, len(all))
		made += all[:n] + "\r\n"
		all = all[n:]
	}
	return made
}
