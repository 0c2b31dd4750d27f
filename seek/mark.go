package seek

import (
	"cmp"
	"slices"
)

// wanted are the terms that a question asks a field for.
func (q question) wanted(f *field) map[string]struct{} {
	terms := map[string]struct{}{}
	for n, a := range q.texts {
		if a.denied {
			continue
		}
		for _, t := range tokensFor(f, q.parts[n]) {
			terms[t.Term] = struct{}{}
		}
	}
	return terms
}

// tokensFor are those by which a text asks a field: none, if it asks others.
func tokensFor(f *field, parts []part) []Token {
	for _, p := range parts {
		if p.field == f {
			return p.tokens
		}
	}
	return nil
}

// marks answers what a question wants of a field of a document.
func (e *Engine) marks(q question, id, number int) []Span {
	f := e.fields[number]
	// No error: a text that the chain refuses was not put.
	tokens, _ := f.take(e.docs[id][number])
	return join(tokens, q.wanted(f))
}

// join makes marks of the tokens with wanted terms. They stand in the order of
// the text, so one can have bytes in common with the last mark alone, or touch
// it.
func join(tokens []Token, wanted map[string]struct{}) []Span {
	var marks []Span
	for _, t := range tokens {
		if _, ok := wanted[t.Term]; !ok {
			continue
		}
		if last := len(marks) - 1; last >= 0 && t.From <= marks[last].To {
			marks[last].To = t.To
			continue
		}
		marks = append(marks, Span{t.From, t.To})
	}
	return marks
}

// passages puts marks together, as many as fit into size bytes. One mark alone
// may be longer.
func passages(marks []Span, size int) []Passage {
	var made []Passage
	for _, m := range marks {
		if n := len(made); n > 0 && m.To-made[n-1].From <= size {
			last := &made[n-1]
			last.To = m.To
			last.Marks = append(last.Marks, m)
			continue
		}
		made = append(made, Passage{m, []Span{m}})
	}
	return made
}

// richest answers the count passages with the most marks, of like ones those
// further left, in the order of the text.
func richest(made []Passage, count int) []Passage {
	slices.SortStableFunc(made, func(a, b Passage) int {
		return cmp.Compare(len(b.Marks), len(a.Marks))
	})
	made = made[:min(count, len(made))]
	slices.SortFunc(made, func(a, b Passage) int { return cmp.Compare(a.From, b.From) })
	return made
}
