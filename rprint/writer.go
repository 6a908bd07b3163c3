package rprint

import (
	"strconv"
	"strings"

	"hackle/api"
	"hackle/rxprint"
)

const hexDigits = "0123456789abcdef"

// writer writes a file that may be.
type writer struct {
	text strings.Builder
	many bool // whether a tree has more bytes than a text of an expression may have
}

func (w *writer) file(f api.File) {
	for _, x := range f.Frags {
		w.line("frag", x.Name, w.tree(x.Re))
	}
	for _, m := range f.Modes {
		w.line("mode", m.Name, "limit", strconv.Itoa(m.Limit), endText(m.End))
		for _, r := range m.Rules {
			w.line("rule", r.Name, w.tree(r.Before), w.number(r), bodyText(r.Next), "->", f.Modes[r.Next.Mode].Name)
		}
	}
}

func (w *writer) line(l ...string) {
	w.text.WriteString(words(l...))
	w.text.WriteByte('\n')
}

// words is l with one blank between each two, but for those that are empty: they don't stand there.
func words(l ...string) string {
	var text strings.Builder
	for _, word := range l {
		if word != "" && text.Len() > 0 {
			text.WriteByte(' ')
		}
		text.WriteString(word)
	}
	return text.String()
}

// tree is re between slashes. Behind one that is too long none is written: they may be great, and nothing will be told of the file.
func (w *writer) tree(re api.Re) string {
	if w.many || re.Kind == api.ReEmpty {
		return "//"
	}
	text, e := rxprint.Print(re)
	if e != api.OK {
		w.many = true
	}
	return "/" + text + "/"
}

// number is what says a rule's number, and what stands behind it.
func (w *writer) number(r api.Rule) string {
	if r.Base == 0 {
		return ""
	}
	base := "dec"
	if r.Base == 16 {
		base = "hex"
	}
	return words(base, strconv.FormatUint(r.Most, 10), w.tree(r.After))
}

func endText(end bool) string {
	if end {
		return "end"
	}
	return ""
}

// bodyText is what says the body that follows a token.
func bodyText(n api.Next) string {
	switch n.Kind {
	case api.NextCount:
		return words("count", strconv.Itoa(n.Add), "max", strconv.Itoa(n.Max))
	case api.NextUntil:
		return words("until", delimText(n), "max", strconv.Itoa(n.Max))
	}
	return ""
}

func delimText(n api.Next) string {
	if n.Own {
		return "own"
	}
	return Quote(n.Delim)
}

// quotedByte is b as it stands in a quoted text.
func quotedByte(b byte) string {
	switch {
	case b == '"' || b == '\\':
		return string([]byte{'\\', b})
	case b == '\n':
		return `\n`
	case b == '\r':
		return `\r`
	case b == '\t':
		return `\t`
	case b >= ' ' && b <= '~':
		return string([]byte{b})
	}
	return string([]byte{'\\', 'x', hexDigits[b>>4], hexDigits[b&15]})
}
