// Package seek: texts taken apart into terms, an index of them, questions, and marks: see DOC.md.
package seek

import (
	"maps"
	"slices"
	"strings"
)

const (
	maxChain  = 80
	maxStages = 8
	maxFields = 3
	maxName   = 8 // letters
	maxText   = 120
	maxTokens = 300
	maxDocs   = 12
	maxId     = 999
	maxQuery  = 100
	maxDepth  = 6
)

// Errno is what a call answers: OK or the reason for a refusal.
type Errno int

const (
	OK       Errno = 0
	ErrLong  Errno = 1 // above a bound
	ErrText  Errno = 2 // no chain, no query
	ErrMany  Errno = 3 // too many stages or tokens
	ErrArg   Errno = 4 // a number that may not be
	ErrName  Errno = 5 // no name, or no such field
	ErrFull  Errno = 6 // too many documents
	ErrNone  Errno = 7 // there is no such document
	ErrDeep  Errno = 8 // a query that nests too deep
	ErrImage Errno = 9 // no image
)

// Char is a character and its bytes.
type Char struct{ Code, From, To int }

// Token is a term, its position and its bytes.
type Token struct {
	Term          string
	Pos, From, To int
}

// Field is a field of all documents, and its chain.
type Field struct{ Name, Chain string }

// Span is bytes of a text.
type Span struct{ From, To int }

// Passage is bytes of a text, and the marks in it.
type Passage struct {
	Span
	Marks []Span
}

// Engine is documents. Make it by New or Load.
type Engine struct {
	fields []*field
	docs   map[int][]string // the texts, by the documents' ids
}

// Split answers the characters of a text (P2).
func Split(text string) ([]Char, Errno) {
	if len(text) > maxText {
		return nil, ErrLong
	}
	return slices.Collect(characters(text)), OK
}

// Check tells whether a text is a chain (P3).
func Check(chain string) (Errno, int) {
	_, err, at := readChain(chain)
	return err, at
}

// Analyse takes a text apart (P4).
func Analyse(chain string, text string) ([]Token, Errno, int) {
	p, err, at := readChain(chain)
	if err != OK {
		return nil, err, at
	}
	a := analyser{plan: p}
	tokens, err := a.take(text)
	return tokens, err, 0
}

// New makes an engine (P5).
func New(fields []Field) (*Engine, Errno, int) {
	if len(fields) == 0 || len(fields) > maxFields {
		return nil, ErrArg, 0
	}
	e := &Engine{docs: map[int][]string{}}
	for n, f := range fields {
		made, err := e.makeField(f)
		if err != OK {
			return nil, err, n
		}
		e.fields = append(e.fields, made)
	}
	return e, OK, 0
}

// Put lays a document (P5).
func (e *Engine) Put(id int, texts []string) (Errno, int) {
	if id < 0 || id > maxId || len(texts) != len(e.fields) {
		return ErrArg, 0
	}
	taken, err, at := e.take(texts)
	if err != OK {
		return err, at
	}
	if !e.has(id) && len(e.docs) == maxDocs {
		return ErrFull, 0
	}
	e.drop(id)
	e.add(id, texts, taken)
	return OK, 0
}

// Del takes a document away (P5).
func (e *Engine) Del(id int) Errno {
	if !e.has(id) {
		return ErrNone
	}
	e.drop(id)
	return OK
}

// Find answers the documents for which a query holds (P6).
func (e *Engine) Find(query string) ([]int, Errno, int) {
	q, err, at := e.question(query)
	if err != OK {
		return nil, err, at
	}
	return find(slices.Collect(maps.Keys(e.docs)), q.holds), OK, 0
}

// Mark marks what a query wants (P7).
func (e *Engine) Mark(query string, id int, field string, size int, count int) ([]Passage, Errno, int) {
	q, err, at := e.question(query)
	if err != OK {
		return nil, err, at
	}
	number := e.numberOf(field)
	switch {
	case !e.has(id):
		return nil, ErrNone, 0
	case number < 0:
		return nil, ErrName, 0
	case size < 1 || size > maxText || count < 1 || count > maxText:
		return nil, ErrArg, 0
	}
	marks := e.marks(q, id, number)
	return richest(passages(marks, size), count), OK, 0
}

// Save writes an engine (P9).
func (e *Engine) Save() string {
	var b strings.Builder
	for _, f := range e.fields {
		b.WriteString(f.Name + ":" + f.Chain + "\n")
	}
	for _, id := range slices.Sorted(maps.Keys(e.docs)) {
		b.WriteString(documentLine(id, e.docs[id]))
	}
	return b.String()
}

// Load reads one (P9).
func Load(fields []Field, image string) (*Engine, Errno, int) {
	e, err, at := New(fields)
	if err != OK {
		return nil, err, at
	}
	if !e.read(image) {
		return nil, ErrImage, 0
	}
	return e, OK, 0
}
