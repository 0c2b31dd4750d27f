package seek

import (
	"slices"
	"strings"
)

// rule tells whether a query holds, by what tells whether its text of a
// number does.
type rule func(holds func(text int) bool) bool

// ask is a text of a query and the name of the field that it asks, "" for
// all of them, and the places of both. It is denied if it stands behind an
// odd number of !.
type ask struct {
	name, text     string
	nameAt, textAt int
	denied         bool
}

// query is one that was read; its texts are in the order of their places.
type query struct {
	rule  rule
	texts []ask
}

func readQuery(text string) (query, Errno, int) {
	if len(text) > maxQuery {
		return query{}, ErrLong, 0
	}
	r := queryReader{reader: reader{text: text}}
	holds, ok := r.query()
	if !ok || r.at < len(text) {
		return query{}, ErrText, r.at
	}
	if r.tooDeep > 0 {
		return query{}, ErrDeep, r.tooDeep
	}
	return query{holds, r.texts}, OK, 0
}

// queryReader goes on behind what is too deep, for what is no query is so
// ahead of being too deep.
type queryReader struct {
	reader
	texts   []ask
	denied  bool // so are the texts that come
	depth   int
	tooDeep int // the first place, which is never 0, as others stand ahead of it
}

func (r *queryReader) query() (rule, bool) {
	parts, ok := row(&r.reader, '|', r.both)
	return some(parts), ok
}

func (r *queryReader) both() (rule, bool) {
	parts, ok := row(&r.reader, '&', r.one)
	return every(parts), ok
}

// one passes over the blanks on both sides, so that none of the others need.
func (r *queryReader) one() (rule, bool) {
	r.blanks()
	holds, ok := r.bareOne()
	if ok {
		r.blanks()
	}
	return holds, ok
}

func (r *queryReader) blanks() {
	r.run(func(b byte) bool { return isBlank(int(b)) })
}

func (r *queryReader) bareOne() (rule, bool) {
	at := r.at
	switch {
	case r.sign('!'):
		r.enter(at)
		defer r.leave()
		r.denied = !r.denied
		part, ok := r.one()
		r.denied = !r.denied
		return not(part), ok
	case r.sign('('):
		r.enter(at)
		defer r.leave()
		part, ok := r.query()
		return part, ok && r.sign(')')
	}
	return r.ask()
}

func (r *queryReader) enter(at int) {
	if r.depth >= maxDepth && r.tooDeep == 0 {
		r.tooDeep = at
	}
	r.depth++
}

func (r *queryReader) leave() { r.depth-- }

func (r *queryReader) ask() (rule, bool) {
	a := ask{nameAt: r.at, textAt: r.at, denied: r.denied}
	a.text = r.run(isBare)
	if isName(a.text) && r.sign(':') {
		a.name, a.textAt = a.text, r.at
		a.text = r.run(isBare)
	}
	if a.text == "" {
		quoted, ok := r.quoted()
		if !ok {
			return nil, false
		}
		a.text = quoted
	}
	r.texts = append(r.texts, a)
	return itself(len(r.texts) - 1), true
}

func (r *queryReader) quoted() (string, bool) {
	if !r.sign('"') {
		return "", false
	}
	inner := r.run(func(b byte) bool { return b != '"' })
	return inner, r.sign('"')
}

// isBare tells whether a byte may be one of a name or a text without quotes.
func isBare(b byte) bool {
	return !isBlank(int(b)) && strings.IndexByte(`()&|!:"`, b) < 0
}

func isName(word string) bool { return word != "" && plain(word) }

func some(parts []rule) rule {
	return func(holds func(text int) bool) bool {
		return slices.ContainsFunc(parts, func(part rule) bool { return part(holds) })
	}
}

func every(parts []rule) rule {
	return func(holds func(text int) bool) bool {
		return !slices.ContainsFunc(parts, func(part rule) bool { return !part(holds) })
	}
}

func not(part rule) rule {
	return func(holds func(text int) bool) bool { return !part(holds) }
}

func itself(number int) rule {
	return func(holds func(text int) bool) bool { return holds(number) }
}
