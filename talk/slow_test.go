package talk

import (
	"regexp"
	"slices"
	"strconv"
	"strings"

	"despatch/api"
	"despatch/box"
)

// What follows does what the chapter tells, with regular expressions and whole texts, as slowly as it is.

// eachCase gives the form of a word whose letters, A to Z, may be big and small.
func eachCase(word string) string {
	form := ""
	for _, c := range []byte(word) {
		if c >= 'A' && c <= 'Z' {
			form += "[" + string(rune(c)) + string(rune(c+32)) + "]"
		} else {
			form += string(rune(c))
		}
	}
	return form
}

const (
	atomForm   = "[-!#$%&'*+0-9A-Z^_`a-z{|}~]+"
	smallForm  = "[-!#$%&'*+0-9^_`a-z{|}~]+"
	pathForm   = `\A(` + atomForm + `(?:\.` + atomForm + `)*@` + smallForm + `(?:\.` + smallForm + `)*)\z`
	numberForm = ` (0|[1-9][0-9]{0,9})`
)

var (
	greetForm     = regexp.MustCompile(`\A` + eachCase("HELO"))
	senderForm    = regexp.MustCompile(`\A` + eachCase("MAIL FROM:"))
	recipientForm = regexp.MustCompile(`\A` + eachCase("RCPT TO:"))
	dataForm      = regexp.MustCompile(`\A` + eachCase("DATA"))
	resetForm     = regexp.MustCompile(`\A` + eachCase("RSET"))
	quitForm      = regexp.MustCompile(`\A` + eachCase("QUIT"))
	addressForm   = regexp.MustCompile(pathForm)

	selectForm  = regexp.MustCompile(`\A` + eachCase("SELECT") + ` ([^ ]*)\z`)
	listForm    = regexp.MustCompile(`\A` + eachCase("LIST") + `\z`)
	fetchForm   = regexp.MustCompile(`\A` + eachCase("FETCH") + numberForm + `\z`)
	storeForm   = regexp.MustCompile(`\A` + eachCase("STORE") + numberForm + numberForm + `\z`)
	expungeForm = regexp.MustCompile(`\A` + eachCase("EXPUNGE") + `\z`)

	wholeEnds = strings.NewReplacer("\r\n", "\r\n", "\r", "\r\n", "\n", "\r\n")
)

// slowTalk is a talk: what is answered, which mails were taken, whether it has ended.
type slowTalk struct {
	answers string
	mails   []api.Posted
	closed  bool
}

// slowPost is what comes of a talk's bytes.
func slowPost(s string) slowTalk {
	var done slowTalk
	all := strings.Split(s, "\r\n")
	all = all[:len(all)-1] // what has no end yet
	isWarm, from, to := false, "", []string(nil)
	for len(all) > 0 && !done.closed {
		line := all[0]
		all = all[1:]
		answer := slowCommand(line, isWarm, from, to)
		done.answers += answer + "\r\n"
		switch {
		case greetForm.MatchString(line) && answer == "250 ok", resetForm.MatchString(line) && answer == "250 ok" && isWarm:
			isWarm, from, to = true, "", nil
		case senderForm.MatchString(line) && answer == "250 ok":
			from = slowAddress(line[10:])
		case recipientForm.MatchString(line) && answer == "250 ok":
			to = append(slices.Clone(to), slowAddress(line[8:]))
		case answer == "221 bye":
			done.closed = true
		case answer == "354 go":
			at := slices.Index(all, ".")
			if at < 0 {
				return done
			}
			var mail []byte
			for _, each := range all[:at] {
				mail = append(mail, strings.TrimPrefix(each, ".")+"\r\n"...)
			}
			if len(mail) > 2097152 {
				done.answers += "552 large\r\n"
			} else {
				done.answers += "250 ok\r\n"
				done.mails = append(done.mails, api.Posted{From: from, To: to, Bytes: mail})
			}
			all, from, to = all[at+1:], "", nil
		}
	}
	return done
}

// slowCommand gives what is answered to a command, without its end.
func slowCommand(line string, isWarm bool, from string, to []string) string {
	form, order, answer := false, false, "250 ok"
	switch {
	case len(line) > 512:
		return "500 what"
	case greetForm.MatchString(line):
		form = len(line) == 4 || line[4] != ' '
	case senderForm.MatchString(line):
		form, order = slowAddress(line[10:]) == "", !isWarm || from != ""
	case recipientForm.MatchString(line):
		form, order = slowAddress(line[8:]) == "", from == ""
		if len(to) == 10 {
			answer = "452 many"
		}
	case dataForm.MatchString(line):
		form, order, answer = len(line) > 4, len(to) == 0, "354 go"
	case resetForm.MatchString(line):
		form = len(line) > 4
	case quitForm.MatchString(line):
		form, answer = len(line) > 4, "221 bye"
	default:
		return "500 what"
	}
	switch {
	case form:
		return "501 form"
	case order:
		return "503 order"
	}
	return answer
}

// slowAddress gives the address between < and >, or nothing.
func slowAddress(s string) string {
	if len(s) < 2 || s[0] != '<' || s[len(s)-1] != '>' {
		return ""
	}
	return addressForm.FindString(s[1 : len(s)-1])
}

// slowLaid is a mail as it is taken, whose bytes were told.
func slowLaid(b string) string {
	s := wholeEnds.Replace(b)
	if s != "" && !strings.HasSuffix(s, "\r\n") {
		s += "\r\n"
	}
	return s
}

// slowStuff is a mail as it is told.
func slowStuff(b string) string {
	all := strings.SplitAfter(slowLaid(b), "\r\n")
	for i, line := range all {
		if strings.HasPrefix(line, ".") {
			all[i] = "." + line
		}
	}
	return strings.Join(all, "") + ".\r\n"
}

// slowSend is Send.
func slowSend(m api.Posted) (string, api.Errno) {
	if !addressForm.MatchString(m.From) || len("MAIL FROM:<>")+len(m.From) > 512 {
		return "", api.ErrForm
	}
	said := "HELO despatch\r\nMAIL FROM:<" + m.From + ">\r\n"
	for _, to := range m.To {
		if !addressForm.MatchString(to) || len("RCPT TO:<>")+len(to) > 512 {
			return "", api.ErrForm
		}
		said += "RCPT TO:<" + to + ">\r\n"
	}
	switch {
	case len(m.To) < 1 || len(m.To) > 10:
		return "", api.ErrRange
	case len(slowLaid(string(m.Bytes))) > 2097152:
		return "", api.ErrTooLarge
	}
	return said + "DATA\r\n" + slowStuff(string(m.Bytes)) + "QUIT\r\n", api.OK
}

// slowDesk is a desk: a box, and the folder, if one was chosen.
type slowDesk struct {
	box    *box.Box
	folder []string
}

// ask is what is answered to a command.
func (d *slowDesk) ask(command string) string {
	chosen := selectForm.FindStringSubmatch(command)
	fetch, store := fetchForm.FindStringSubmatch(command), storeForm.FindStringSubmatch(command)
	lists, expunges := listForm.MatchString(command), expungeForm.MatchString(command)
	switch {
	case chosen != nil:
		if !box.Folder(chosen[1]) {
			return "NO 1\r\n"
		}
		d.folder = []string{chosen[1]}
		return "* EXISTS " + strconv.Itoa(len(d.box.List(chosen[1]))) + "\r\nOK\r\n"
	case fetch == nil && store == nil && !lists && !expunges:
		return "BAD\r\n"
	case d.folder == nil:
		return "NO 7\r\n"
	case lists:
		return "*" + slowNumbers(d.box.List(d.folder[0])) + "\r\nOK\r\n"
	case fetch != nil:
		m, code := d.box.Fetch(d.folder[0], slowNumber(fetch[1]))
		if code != api.OK {
			return slowNo(code)
		}
		return "* FLAGS " + strconv.Itoa(m.Flags) + " SIZE " + strconv.Itoa(len(m.Bytes)) + "\r\n" + slowStuff(string(m.Bytes)) + "OK\r\n"
	case store != nil:
		return slowNo(d.box.Mark(d.folder[0], slowNumber(store[1]), slowNumber(store[2])))
	}
	gone, code := d.box.Expunge(d.folder[0])
	if code != api.OK {
		return slowNo(code)
	}
	return "*" + slowNumbers(gone) + "\r\nOK\r\n"
}

// slowNo is the last line of an answer.
func slowNo(code api.Errno) string {
	if code == api.OK {
		return "OK\r\n"
	}
	return "NO " + strconv.Itoa(int(code)) + "\r\n"
}

// slowNumbers gives numbers with a blank ahead of each.
func slowNumbers(list []int) string {
	s := ""
	for _, n := range list {
		s += " " + strconv.Itoa(n)
	}
	return s
}

// slowNumber gives the number that digits tell.
func slowNumber(s string) int {
	n := 0
	for _, c := range s {
		n = n*10 + int(c-'0')
	}
	return n
}
