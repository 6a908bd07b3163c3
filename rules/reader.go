package rules

import (
	"strings"

	"hackle/api"
	"hackle/rxparse"
)

// maxCount is the greatest number of bytes of a body, and of those that are added to one.
const maxCount = 1 << 40

// goal is a mode by its name, as a rule goes to it, and where that stands.
type goal struct {
	name       string
	at         int
	mode, rule int // whose goal it is
}

// places is the places of things by their names.
type places map[string]int

// reader reads a rule file.
type reader struct {
	cursor
	file  api.File
	frags places
	modes places
	rules places // of the last mode
	goals []goal // of all rules, as a mode may stand behind a rule that goes to it
}

func newReader(text string) *reader {
	return &reader{cursor: cursor{text: text}, frags: places{}, modes: places{}}
}

// lines is what reads a line up to its end, by the first byte.
func (r *reader) lines() map[byte]func() {
	return map[byte]func(){
		'\n': r.empty,
		'#':  r.remark,
		'f':  r.frag,
		'm':  r.mode,
		'r':  r.rule,
	}
}

func (r *reader) whole() api.File {
	lines := r.lines()
	for r.at < len(r.text) {
		read, ok := lines[r.ahead()]
		if !ok {
			panic(r.wrong())
		}
		read()
		r.end()
	}
	if len(r.file.Modes) == 0 {
		panic(fault{r.at, api.ErrEmpty})
	}
	r.lead()
	return r.file
}

// end takes a line's end.
func (r *reader) end() {
	if r.at < len(r.text) {
		r.must('\n')
	}
}

// empty reads an empty line, which has nothing ahead of its end.
func (r *reader) empty() {}

func (r *reader) remark() {
	for r.mayStand(r.at) {
		r.at++
	}
}

func (r *reader) frag() {
	from := r.at
	r.words("frag ")
	fits(from, len(r.file.Frags), api.MaxFrags)
	name := r.newName(r.frags)
	r.must(' ')
	r.file.Frags = append(r.file.Frags, api.Frag{Name: name, Re: r.expression()})
}

func (r *reader) mode() {
	from := r.at
	r.words("mode ")
	fits(from, len(r.file.Modes), api.MaxModes)
	mode := api.Mode{Name: r.newName(r.modes)}
	r.words(" limit ")
	mode.Limit = int(r.number(1, api.MaxLimit))
	if r.took(' ') {
		r.words("end")
		mode.End = true
	}
	r.file.Modes = append(r.file.Modes, mode)
	r.rules = places{}
}

func (r *reader) rule() {
	from := r.at
	r.words("rule ")
	last := len(r.file.Modes) - 1
	if last < 0 {
		panic(fault{from, api.ErrState})
	}
	mode := &r.file.Modes[last]
	fits(from, len(mode.Rules), api.MaxRules)
	rule := api.Rule{Name: r.newName(r.rules)}
	r.must(' ')
	r.shape(&rule)
	rule.Next = r.next()
	r.goal(last, len(mode.Rules))
	mode.Rules = append(mode.Rules, rule)
}

// fits panics with the fault of a line that begins at from, if there are as many things of its kind as may be already.
func fits(from, have, most int) {
	if have == most {
		panic(fault{from, api.ErrMany})
	}
}

// newName reads a name that isn't taken, and takes it. It is a copy, as a piece of the text would keep all of that.
func (r *reader) newName(taken places) string {
	from := r.at
	name := strings.Clone(r.name())
	if _, twice := taken[name]; twice {
		panic(fault{from, api.ErrTwice})
	}
	taken[name] = len(taken)
	return name
}

// shape reads what a rule's texts are, and the blank behind.
func (r *reader) shape(rule *api.Rule) {
	rule.Before = r.expression()
	r.must(' ')
	switch r.ahead() {
	case 'd':
		r.words("dec ")
		rule.Base = 10
	case 'h':
		r.words("hex ")
		rule.Base = 16
	default:
		return
	}
	rule.Most = r.number(0, api.MaxInt)
	r.must(' ')
	rule.After = r.expression()
	r.must(' ')
}

// expression reads an expression between two / . Where it ends is told ahead of what it says.
func (r *reader) expression() api.Re {
	r.must('/')
	from := r.at
	r.at = r.closing('/')
	r.must('/')
	re, at, e := rxparse.Parse(r.text[from:r.at-1], r.file.Frags)
	if e != api.OK {
		panic(fault{from + at, e})
	}
	return re
}

// next reads what follows a token, but for the mode.
func (r *reader) next() api.Next {
	var next api.Next
	switch r.ahead() {
	case 'c':
		r.words("count ")
		next.Kind = api.NextCount
		next.Add = r.count()
		next.Max = r.most()
	case 'u':
		r.words("until ")
		next.Kind = api.NextUntil
		next.Own = r.ahead() == 'o'
		if next.Own {
			r.words("own")
		} else {
			next.Delim = r.delimiter()
		}
		next.Max = r.most()
	}
	r.words("-> ")
	return next
}

// most reads how many bytes a body has at most, and the blanks around.
func (r *reader) most() int {
	r.words(" max ")
	n := r.count()
	r.must(' ')
	return n
}

func (r *reader) count() int {
	return int(r.number(0, maxCount))
}

// delimiter reads a quoted text. A byte that may not stand in a line is told ahead of whatever else is wrong with it.
func (r *reader) delimiter() string {
	from := r.at
	r.must('"')
	r.mustStand(r.closing('"'))
	r.at = from
	text := r.quoted()
	if len(text) < 1 || len(text) > api.MaxDelim {
		panic(fault{from, api.ErrRange})
	}
	return text
}

// goal reads the name of the mode to which a rule goes.
func (r *reader) goal(mode, rule int) {
	from := r.at
	r.goals = append(r.goals, goal{name: r.name(), at: from, mode: mode, rule: rule})
}

// lead has each rule go to the mode that it names.
func (r *reader) lead() {
	for _, g := range r.goals {
		mode, ok := r.modes[g.name]
		if !ok {
			panic(fault{g.at, api.ErrName})
		}
		r.file.Modes[g.mode].Rules[g.rule].Next.Mode = mode
	}
}
