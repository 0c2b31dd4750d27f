// Package seek: texts taken apart into terms, an index of them, questions, and marks: see DOC.md.
package seek

import "slices"

const (
	maxChain  = 80
	maxStages = 8
	maxText   = 120
	maxTokens = 300
)

// Errno is what a call answers: OK or the reason for a refusal.
type Errno int

const (
	OK       Errno = 0
	ErrLong  Errno = 1 // above a bound
	ErrText  Errno = 2 // no chain, no query
	ErrMany  Errno = 3 // too many stages or tokens
	ErrArg   Errno = 4 // a number that may not be
	ErrName  Errno = 5 // no name, or no such field
	ErrFull  Errno = 6 // too many documents
	ErrNone  Errno = 7 // there is no such document
	ErrDeep  Errno = 8 // a query that nests too deep
	ErrImage Errno = 9 // no image
)

// Char is a character and its bytes.
type Char struct{ Code, From, To int }

// Token is a term, its position and its bytes.
type Token struct {
	Term          string
	Pos, From, To int
}

// Field is a field of all documents, and its chain.
type Field struct{ Name, Chain string }

// Span is bytes of a text.
type Span struct{ From, To int }

// Passage is bytes of a text, and the marks in it.
type Passage struct {
	Span
	Marks []Span
}

// Engine is documents. Make it by New or Load.
type Engine struct{}

// Split answers the characters of a text (P2).
func Split(text string) ([]Char, Errno) {
	if len(text) > maxText {
		return nil, ErrLong
	}
	return slices.Collect(characters(text)), OK
}

// Check tells whether a text is a chain (P3).
func Check(chain string) (Errno, int) {
	_, err, at := readChain(chain)
	return err, at
}

// Analyse takes a text apart (P4).
func Analyse(chain string, text string) ([]Token, Errno, int) {
	p, err, at := readChain(chain)
	if err != OK {
		return nil, err, at
	}
	a := analyser{plan: p}
	tokens, err := a.take(text)
	return tokens, err, 0
}

// New makes an engine (P5).
func New(fields []Field) (*Engine, Errno, int) { return nil, 0, 0 }

// Put lays a document (P5).
func (e *Engine) Put(id int, texts []string) (Errno, int) { return 0, 0 }

// Del takes a document away (P5).
func (e *Engine) Del(id int) Errno { return 0 }

// Find answers the documents for which a query holds (P6).
func (e *Engine) Find(query string) ([]int, Errno, int) { return nil, 0, 0 }

// Mark marks what a query wants (P7).
func (e *Engine) Mark(query string, id int, field string, size int, count int) ([]Passage, Errno, int) {
	return nil, 0, 0
}

// Save writes an engine (P9).
func (e *Engine) Save() string { return "" }

// Load reads one (P9).
func Load(fields []Field, image string) (*Engine, Errno, int) { return nil, 0, 0 }
