package param

import (
	"math"
	"strconv"
	"strings"

	"quern/api"
	"quern/word"
)

// The first word of a line.
const (
	nameBig   = "2b"
	nameSmall = "2s"
)

// Show tells parameters as a line.
func Show(k api.Kind, p api.Params) (string, api.Errno) {
	normal, e := Normal(k, p)
	if e != api.OK {
		return "", e
	}
	var text strings.Builder
	text.WriteString(nameOf(k))
	usual := unsaid(k)
	for _, r := range rows() {
		if value := r.show(normal); value != r.show(usual) {
			text.WriteString(" " + r.name + "=" + value)
		}
	}
	return text.String(), api.OK
}

func nameOf(k api.Kind) string {
	if k == api.Small {
		return nameSmall
	}
	return nameBig
}

// unsaid tells the parameters of a line that says none.
func unsaid(k api.Kind) api.Params {
	most, _ := Most(k)
	p, _ := Plain(k, most, 0)
	return p
}

// show tells a field's value as it stands in a line.
func (r row) show(p api.Params) string {
	switch r.field {
	case fieldSalt:
		return word.Hex(p.Salt)
	case fieldPersonal:
		return word.Hex(p.Personal)
	}
	return strconv.FormatUint(number(p, r.field), 10)
}

// fault is what the reading of a line gives up with.
type fault struct {
	at  int
	why api.Errno
}

// Read tells the kind and the parameters of a line, or the place of the first fault.
func Read(text string) (k api.Kind, p api.Params, at int, e api.Errno) {
	if len(text) > api.MaxLine {
		return 0, api.Params{}, 0, api.ErrLong
	}
	defer func() {
		if gaveUp := recover(); gaveUp != nil {
			f := gaveUp.(fault)
			k, p, at, e = 0, api.Params{}, f.at, f.why
		}
	}()
	l := readLine(text)
	return l.kind, l.settle(), 0, api.OK
}

// line is what was read of a text so far.
type line struct {
	kind api.Kind
	said api.Params
	at   [fieldPersonal]int // of each row the place of the word that says the field
	rows int                // so many rows from the first on may not be said any more
	wide fault              // the first number that is past four bytes where there are no more
}

func readLine(text string) *line {
	words := strings.Split(text, " ")
	l := &line{kind: readKind(words[0])}
	l.said = unsaid(l.kind)
	at := len(words[0]) + 1
	for _, w := range words[1:] {
		l.readField(w, at)
		at += len(w) + 1
	}
	return l
}

func readKind(w string) api.Kind {
	switch w {
	case nameBig:
		return api.Big
	case nameSmall:
		return api.Small
	}
	panic(fault{0, api.ErrForm})
}

// readField reads a word that says a field, one behind those that were said.
func (l *line) readField(w string, at int) {
	name, value, parted := strings.Cut(w, "=")
	table := rows()
	for i := l.rows; i < len(table); i++ {
		if parted && table[i].name == name {
			l.readValue(table[i], value, at)
			l.at[i] = at
			l.rows = i + 1
			return
		}
	}
	panic(fault{at, api.ErrForm})
}

func (l *line) readValue(r row, value string, at int) {
	switch r.field {
	case fieldSalt:
		l.said.Salt = readBytes(value, at)
	case fieldPersonal:
		l.said.Personal = readBytes(value, at)
	default:
		n := readNumber(value, at)
		four := r.field == api.FieldLeaf || r.field == api.FieldXof
		// A word behind may still be none at all, and that comes first.
		if four && n > math.MaxUint32 && l.wide.why == api.OK {
			l.wide = fault{at, r.fault}
		}
		setNumber(&l.said, r.field, n)
	}
}

// readNumber takes just what Show writes: so no nought stands ahead.
func readNumber(value string, at int) uint64 {
	n, err := strconv.ParseUint(value, 10, 64)
	if err != nil || strconv.FormatUint(n, 10) != value {
		panic(fault{at, api.ErrForm})
	}
	return n
}

// readBytes takes just what Show writes: so there are no capital letters, which UnHex would take.
func readBytes(value string, at int) []byte {
	b, _, e := word.UnHex(value)
	if e != api.OK || word.Hex(b) != value {
		panic(fault{at, api.ErrForm})
	}
	return b
}

// settle tells what was said, or gives up at the word that says what can't be.
func (l *line) settle() api.Params {
	if l.wide.why != api.OK {
		panic(l.wide)
	}
	p, e := Normal(l.kind, l.said)
	if e == api.OK {
		return p
	}
	at := 0
	for i, r := range rows() {
		// What isn't said may be: the field at fault has its word.
		if r.fault == e {
			at = l.at[i]
		}
	}
	panic(fault{at, e})
}
