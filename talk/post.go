package talk

import (
	"bytes"
	"slices"
	"strings"

	"despatch/api"
	"despatch/field"
	"despatch/lines"
)

// What a Post answers.
const (
	saysBye   = "221 bye"
	saysOk    = "250 ok"
	saysGo    = "354 go"
	saysMany  = "452 many"
	saysWhat  = "500 what"
	saysForm  = "501 form"
	saysOrder = "503 order"
	saysLarge = "552 large"
)

// How far a talk has come. MAIL, RCPT and DATA each lead one further.
const (
	cold = iota
	warm
	hasSender
	hasRecipient
	inData
	ended
)

// point, alone on a line, ends the data.
const point = "."

// mostData is how many bytes of data are enough to be too large, whichever they are: of four bytes on a line at least three are the mail's.
const mostData = 2 * api.MaxMail

// Post takes mails over a line.
type Post struct {
	state int
	from  string
	to    []string
	line  []byte // what came of the line that has no end yet
	data  []byte // the lines of data, each with its end
	mails []api.Posted
}

// command is what a line may begin with, and what does it, and gives the answer, being told what is behind.
type command struct {
	word string
	do   func(behind string) string
}

// NewPost gives a Post at the beginning of a talk.
func NewPost() *Post { return &Post{} }

// Feed takes bytes of a talk, and gives what is answered.
func (p *Post) Feed(b []byte) []byte {
	var told []byte
next:
	if p.Closed() || len(b) == 0 {
		return told
	}
	b = p.wait(b)
	if line, whole := bytes.CutSuffix(p.line, []byte(lineEnd)); whole {
		p.line = nil
		told = append(told, p.answer(line)...)
	}
	goto next
}

// Mails gives the mails that were taken.
func (p *Post) Mails() []api.Posted {
	mails := slices.Clone(p.mails)
	for i, m := range mails {
		mails[i].To = slices.Clone(m.To)
		mails[i].Bytes = bytes.Clone(m.Bytes)
	}
	return mails
}

// Closed tells whether the talk has ended.
func (p *Post) Closed() bool { return p.state == ended }

// wait puts bytes behind the line that has no end yet, up to where that may have ended, and gives those behind.
func (p *Post) wait(b []byte) []byte {
	most := p.mostOfLine()
	piece := b[:min(len(b), most)]
	if at := bytes.IndexByte(piece, '\n'); at >= 0 {
		piece = piece[:at+1]
	}
	p.line = append(p.line, piece...)
	// A line that is too long stays so without the bytes amid it; its last ones tell whether it has ended.
	if tail := len(p.line) - len(lineEnd); tail > most {
		p.line = append(p.line[:most], p.line[tail:]...)
	}
	return b[len(piece):]
}

// mostOfLine is how many bytes of a line, but for its end, make it too long, so that no more of it need be kept.
func (p *Post) mostOfLine() int {
	if p.state == inData {
		return mostData
	}
	return api.MaxCommand + 1
}

// answer does what a line asks for, and gives the line that is answered, with its end, or nothing.
func (p *Post) answer(line []byte) string {
	if p.state != inData {
		return p.obey(string(line)) + lineEnd
	}
	if string(line) == point {
		return p.take() + lineEnd
	}
	if len(p.data) < mostData {
		p.data = append(p.data, line...)
		p.data = append(p.data, lineEnd...)
	}
	return ""
}

// obey does the command of a line, and gives the answer.
func (p *Post) obey(line string) string {
	if len(line) > api.MaxCommand {
		return saysWhat
	}
	for _, c := range p.commands() {
		size := len(c.word)
		if len(line) >= size && field.Same(line[:size], c.word) {
			return c.do(line[size:])
		}
	}
	return saysWhat
}

// commands gives what the talk may be told.
func (p *Post) commands() []command {
	return []command{
		{wordGreet, p.greet},
		{wordSender, p.sender},
		{wordRecipient, p.recipient},
		{wordData, p.begin},
		{wordReset, p.reset},
		{wordQuit, p.quit},
	}
}

// greet warms the talk.
func (p *Post) greet(behind string) string {
	if !strings.HasPrefix(behind, blank) {
		return saysForm
	}
	p.restart()
	return saysOk
}

// sender hears who a mail is from.
func (p *Post) sender(behind string) string {
	from, right := addressIn(behind)
	switch {
	case !right:
		return saysForm
	case p.state != warm:
		return saysOrder
	}
	p.from = from
	p.state = hasSender
	return saysOk
}

// recipient hears of one for whom the mail is.
func (p *Post) recipient(behind string) string {
	to, right := addressIn(behind)
	switch {
	case !right:
		return saysForm
	case p.state != hasSender && p.state != hasRecipient:
		return saysOrder
	case len(p.to) == api.MaxTo:
		return saysMany
	}
	p.to = append(p.to, to)
	p.state = hasRecipient
	return saysOk
}

// begin lets data come.
func (p *Post) begin(behind string) string {
	switch {
	case behind != "":
		return saysForm
	case p.state != hasRecipient:
		return saysOrder
	}
	p.state = inData
	return saysGo
}

// reset forgets the mail that was begun.
func (p *Post) reset(behind string) string {
	if behind != "" {
		return saysForm
	}
	if p.state != cold {
		p.restart()
	}
	return saysOk
}

// quit ends the talk.
func (p *Post) quit(behind string) string {
	if behind != "" {
		return saysForm
	}
	p.restart()
	p.state = ended
	return saysBye
}

// take makes a mail of the data, if it may be so large, and gives the answer.
func (p *Post) take() string {
	// The line that ended the data is behind them, so that there is a mail.
	mail, _, _ := lines.Unstuff(append(p.data, point+lineEnd...))
	posted := api.Posted{From: p.from, To: p.to, Bytes: mail}
	p.restart()
	if len(mail) > api.MaxMail {
		return saysLarge
	}
	p.mails = append(p.mails, posted)
	return saysOk
}

// restart makes the talk warm, with nothing of a mail.
func (p *Post) restart() {
	p.state = warm
	p.from, p.to, p.data = "", nil, nil
}

// addressIn gives the address that stands between its signs.
func addressIn(s string) (string, bool) {
	inside, begins := strings.CutPrefix(s, opens)
	address, ends := strings.CutSuffix(inside, closes)
	if !begins || !ends || !isAddress(address) {
		return "", false
	}
	return address, true
}
