package seek

import (
	"slices"
	"strings"
)

// field is a field of an engine: what takes its texts apart, and what they
// have.
type field struct {
	name string
	analyser
	index index
}

// makeField makes one that stands behind those that there are.
func (e *Engine) makeField(f Field) (*field, Errno) {
	if !isName(f.Name) || len(f.Name) > maxName || len(e.asked(f.Name)) > 0 {
		return nil, ErrName
	}
	p, err, _ := readChain(f.Chain)
	if err != OK {
		return nil, err
	}
	return &field{strings.Clone(f.Name), analyser{plan: p}, index{}}, OK
}

// asked are the fields that a text with that name asks: all, if it is "".
func (e *Engine) asked(name string) []*field {
	var found []*field
	for _, f := range e.fields {
		if name == "" || name == f.name {
			found = append(found, f)
		}
	}
	return found
}

// take answers the tokens of each text, or an error and the text's number.
func (e *Engine) take(texts []string) ([][]Token, Errno, int) {
	var taken [][]Token
	for n, text := range texts {
		tokens, err := e.fields[n].take(text)
		if err != OK {
			return nil, err, n
		}
		taken = append(taken, tokens)
	}
	return taken, OK, 0
}

func (e *Engine) has(id int) bool {
	_, ok := e.docs[id]
	return ok
}

func (e *Engine) add(id int, taken [][]Token) {
	e.docs[id] = struct{}{}
	for n, tokens := range taken {
		e.fields[n].index.add(id, tokens)
	}
}

func (e *Engine) drop(id int) {
	delete(e.docs, id)
	for _, f := range e.fields {
		f.index.drop(id)
	}
}

// question is a query, and what each of its texts asks of the fields.
type question struct {
	rule    rule
	phrases [][]phrase
}

func (e *Engine) question(query string) (question, Errno, int) {
	read, err, at := readQuery(query)
	if err != OK {
		return question{}, err, at
	}
	for _, a := range read.texts {
		if len(e.asked(a.name)) == 0 {
			return question{}, ErrName, a.nameAt
		}
	}
	q := question{rule: read.rule}
	for _, a := range read.texts {
		phrases, err := e.phrases(a)
		if err != OK {
			return question{}, err, a.textAt
		}
		q.phrases = append(q.phrases, phrases)
	}
	return q, OK, 0
}

func (e *Engine) phrases(a ask) ([]phrase, Errno) {
	var found []phrase
	for _, f := range e.asked(a.name) {
		tokens, err := f.take(a.text)
		if err != OK {
			return nil, err
		}
		found = append(found, f.index.phrase(tokens))
	}
	return found, OK
}

func (q question) holds(id int) bool {
	return q.rule(func(text int) bool {
		return slices.ContainsFunc(q.phrases[text], func(p phrase) bool { return p.in(id) })
	})
}
