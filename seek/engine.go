package seek

import (
	"slices"
	"strings"
)

// field is a field of an engine: what takes its texts apart, and what they
// have.
type field struct {
	Field
	analyser
	index index
}

// makeField makes one that stands behind those that there are.
func (e *Engine) makeField(f Field) (*field, Errno) {
	if !isName(f.Name) || len(f.Name) > maxName || e.numberOf(f.Name) >= 0 {
		return nil, ErrName
	}
	p, err, _ := readChain(f.Chain)
	if err != OK {
		return nil, err
	}
	own := Field{strings.Clone(f.Name), strings.Clone(f.Chain)}
	return &field{own, analyser{plan: p}, index{}}, OK
}

// numberOf is the number of the field with that name, or -1.
func (e *Engine) numberOf(name string) int {
	return slices.IndexFunc(e.fields, func(f *field) bool { return f.Name == name })
}

// asked are the fields that a text with that name asks: all, if it is "".
func (e *Engine) asked(name string) []*field {
	var found []*field
	for _, f := range e.fields {
		if name == "" || name == f.Name {
			found = append(found, f)
		}
	}
	return found
}

// take answers the tokens of each text, or an error and the text's number.
func (e *Engine) take(texts []string) ([][]Token, Errno, int) {
	var taken [][]Token
	for n, text := range texts {
		tokens, err := e.fields[n].take(text)
		if err != OK {
			return nil, err, n
		}
		taken = append(taken, tokens)
	}
	return taken, OK, 0
}

func (e *Engine) has(id int) bool {
	_, ok := e.docs[id]
	return ok
}

// add needs the texts of a new document, and their tokens.
func (e *Engine) add(id int, texts []string, taken [][]Token) {
	own := make([]string, len(texts))
	for n, f := range e.fields {
		own[n] = strings.Clone(texts[n])
		f.index.add(id, taken[n])
	}
	e.docs[id] = own
}

func (e *Engine) drop(id int) {
	delete(e.docs, id)
	for _, f := range e.fields {
		f.index.drop(id)
	}
}

// question is a query, and what each of its texts asks of the fields.
type question struct {
	query
	parts [][]part
}

// part is what a text asks of one field.
type part struct {
	field  *field
	tokens []Token
	phrase phrase
}

func (e *Engine) question(query string) (question, Errno, int) {
	read, err, at := readQuery(query)
	if err != OK {
		return question{}, err, at
	}
	for _, a := range read.texts {
		if len(e.asked(a.name)) == 0 {
			return question{}, ErrName, a.nameAt
		}
	}
	q := question{query: read}
	for _, a := range read.texts {
		parts, err := e.parts(a)
		if err != OK {
			return question{}, err, a.textAt
		}
		q.parts = append(q.parts, parts)
	}
	return q, OK, 0
}

func (e *Engine) parts(a ask) ([]part, Errno) {
	var found []part
	for _, f := range e.asked(a.name) {
		tokens, err := f.take(a.text)
		if err != OK {
			return nil, err
		}
		found = append(found, part{f, tokens, f.index.phrase(tokens)})
	}
	return found, OK
}

func (q question) holds(id int) bool {
	return q.rule(func(text int) bool {
		return slices.ContainsFunc(q.parts[text], func(p part) bool { return p.phrase.in(id) })
	})
}
