package seek

import (
	"strings"
	"sync"
)

// analyser takes texts apart by one chain. Its stages are made when the first
// text comes, once, whoever brings it.
type analyser struct {
	plan   plan
	once   sync.Once
	early  []early
	cutter cutter
	late   []late
}

func (a *analyser) makeStages() {
	for _, s := range a.plan.early {
		a.early = append(a.early, makeEarly(s))
	}
	a.cutter = makeCutter(a.plan.cutter)
	for _, s := range a.plan.late {
		a.late = append(a.late, makeLate(s))
	}
}

// take answers the tokens of a text, or ErrLong or ErrMany.
func (a *analyser) take(text string) ([]Token, Errno) {
	chars, err := Split(text)
	if err != OK {
		return nil, err
	}
	a.once.Do(a.makeStages)
	for _, stage := range a.early {
		chars = stage.change(chars)
	}
	tokens, ok := cutTokens(chars, a.cutter)
	for _, stage := range a.late {
		if !ok {
			break
		}
		tokens, ok = changeTokens(tokens, stage)
	}
	if !ok {
		return nil, ErrMany
	}
	return tokens, OK
}

// cutTokens stops, and answers false, where there is one token too many; so
// does changeTokens.
func cutTokens(chars []Char, stage cutter) ([]Token, bool) {
	var tokens []Token
	for row := range stage.cut(chars) {
		if len(tokens) == maxTokens {
			return nil, false
		}
		last := row[len(row)-1]
		tokens = append(tokens, Token{termOf(row), len(tokens), row[0].From, last.To})
	}
	return tokens, true
}

func changeTokens(tokens []Token, stage late) ([]Token, bool) {
	var out []Token
	for _, t := range tokens {
		for term := range stage.terms(t.Term) {
			if len(out) == maxTokens {
				return nil, false
			}
			out = append(out, Token{term, t.Pos, t.From, t.To})
		}
	}
	return out, true
}

func termOf(row []Char) string {
	var b strings.Builder
	for _, c := range row {
		b.WriteRune(rune(c.Code))
	}
	return b.String()
}
