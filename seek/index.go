package seek

import (
	"maps"
	"slices"
	"strings"
)

// index tells of a term which documents have it in a field, and of these at
// which positions, rising.
type index map[string]map[int][]int

func (x index) add(id int, tokens []Token) {
	for _, t := range tokens {
		docs := x[t.Term]
		if docs == nil {
			docs = map[int][]int{}
			// A term may be a piece of a far longer one, which need not be kept.
			x[strings.Clone(t.Term)] = docs
		}
		if at := docs[id]; len(at) == 0 || at[len(at)-1] < t.Pos {
			docs[id] = append(at, t.Pos)
		}
	}
}

func (x index) drop(id int) {
	maps.DeleteFunc(x, func(_ string, docs map[int][]int) bool {
		delete(docs, id)
		return len(docs) == 0
	})
}

// spot is a position of a text's tokens and, for each term there, the
// documents that have it.
type spot struct {
	pos  int
	docs []map[int][]int
}

// phrase is what a text asks of a field.
type phrase []spot

func (x index) phrase(tokens []Token) phrase {
	var p phrase
	for _, t := range tokens {
		if len(p) == 0 || p[len(p)-1].pos < t.Pos {
			p = append(p, spot{pos: t.Pos})
		}
		last := &p[len(p)-1]
		last.docs = append(last.docs, x[t.Term])
	}
	return p
}

// in tells whether a document has the text. By whatever number it has it, it
// has a term of the first spot, so no other number needs to be tried.
func (p phrase) in(id int) bool {
	if len(p) == 0 {
		return false
	}
	for _, docs := range p[0].docs {
		for _, pos := range docs[id] {
			if p.fits(id, pos-p[0].pos) {
				return true
			}
		}
	}
	return false
}

func (p phrase) fits(id, number int) bool {
	for _, s := range p {
		if !s.in(id, s.pos+number) {
			return false
		}
	}
	return true
}

func (s spot) in(id, pos int) bool {
	for _, docs := range s.docs {
		if _, found := slices.BinarySearch(docs[id], pos); found {
			return true
		}
	}
	return false
}
