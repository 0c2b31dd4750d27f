package seek

import (
	"iter"
	"slices"
	"strings"
	"unicode/utf8"
)

// late is a stage that changes tokens. All that it needs of a token is the
// term: the tokens that come of it keep its position and bytes.
type late struct {
	terms func(term string) iter.Seq[string]
}

func makeLate(s step) late {
	switch s.name {
	case "low":
		return late{func(term string) iter.Seq[string] { return only(small(term)) }}
	case "stem":
		return late{func(term string) iter.Seq[string] { return only(stem(term)) }}
	case "stop(":
		return late{func(term string) iter.Seq[string] {
			return onlyIf(!slices.Contains(s.words, term), term)
		}}
	case "syn(":
		return late{func(term string) iter.Seq[string] { return withLike(term, s.pairs) }}
	case "len(":
		return late{func(term string) iter.Seq[string] {
			n := utf8.RuneCountInString(term)
			return onlyIf(s.low <= n && n <= s.high, term)
		}}
	case "gram(":
		return late{func(term string) iter.Seq[string] { return grams(term, s.low, s.high) }}
	}
	return late{func(term string) iter.Seq[string] { return edges(term, s.low, s.high) }}
}

func only(term string) iter.Seq[string] { return onlyIf(true, term) }

func onlyIf(stays bool, term string) iter.Seq[string] {
	return func(yield func(string) bool) {
		if stays {
			yield(term)
		}
	}
}

func small(term string) string {
	var b strings.Builder
	for _, code := range term {
		b.WriteRune(rune(smallForm(int(code))))
	}
	return b.String()
}

// ending is what may end a term, how many letters it must leave ahead of it,
// and what stands instead.
type ending struct {
	old   string
	leave int
	new   string
}

var endings = [...]ending{
	{"sses", 1, "ss"},
	{"ies", 2, "y"},
	{"ss", 1, "ss"},
	{"us", 1, "us"},
	{"s", 2, ""},
	{"ing", 3, ""},
	{"edly", 3, ""},
	{"ed", 3, ""},
	{"ly", 3, ""},
}

func stem(term string) string {
	if !plain(term) {
		return term
	}
	for _, e := range endings {
		left, ends := strings.CutSuffix(term, e.old)
		if ends && len(left) >= e.leave {
			return left + e.new
		}
	}
	return term
}

// plain tells whether a term is of letters a to z alone.
func plain(term string) bool {
	for _, code := range term {
		if code < 'a' || code > 'z' {
			return false
		}
	}
	return true
}

func withLike(term string, pairs []pair) iter.Seq[string] {
	return func(yield func(string) bool) {
		if !yield(term) {
			return
		}
		for _, p := range pairs {
			if p.left == term && !yield(p.right) {
				return
			}
		}
	}
}

func grams(term string, low, high int) iter.Seq[string] {
	return func(yield func(string) bool) {
		for from := range term {
			for piece := range edges(term[from:], low, high) {
				if !yield(piece) {
					return
				}
			}
		}
	}
}

// edges goes no further into a term than it must: a term may be far longer
// than any of its pieces.
func edges(term string, low, high int) iter.Seq[string] {
	return func(yield func(string) bool) {
		count := 0
		for at, code := range term {
			count++
			if count > high {
				return
			}
			if count >= low && !yield(term[:at+utf8.RuneLen(code)]) {
				return
			}
		}
	}
}
