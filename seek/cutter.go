package seek

import "iter"

// cutter is the stage that finds the rows of characters that become tokens.
type cutter struct {
	cut func(chars []Char) iter.Seq[[]Char]
}

func makeCutter(s step) cutter {
	switch s.name {
	case "words":
		return cutter{rows(wordSize)}
	case "blanks":
		return cutter{rows(solidSize)}
	}
	return cutter{rows(wholeSize)}
}

// rows makes a cutter's function of one that tells how many characters the
// row has that begins them; where it is 0, a character is passed over.
func rows(size func(chars []Char, from int) int) func([]Char) iter.Seq[[]Char] {
	return func(chars []Char) iter.Seq[[]Char] {
		return func(yield func([]Char) bool) {
			for from := 0; from < len(chars); {
				n := size(chars, from)
				if n == 0 {
					from++
					continue
				}
				if !yield(chars[from : from+n]) {
					return
				}
				from += n
			}
		}
	}
}

func wholeSize(chars []Char, from int) int { return len(chars) - from }

func solidSize(chars []Char, from int) int {
	to := from
	for to < len(chars) && !isBlank(chars[to].Code) {
		to++
	}
	return to - from
}

func wordSize(chars []Char, from int) int {
	to := from + 1
	switch first := chars[from].Code; {
	case isSign(first):
		for to < len(chars) && isMark(chars[to].Code) {
			to++
		}
	case isLetter(first) || isDigit(first):
		for to < len(chars) && wordGoesOn(chars, to) {
			to++
		}
	default:
		return 0
	}
	return to - from
}

// wordGoesOn tells whether a word that has the character ahead has this one.
func wordGoesOn(chars []Char, at int) bool {
	switch code := chars[at].Code; code {
	case apostrophe, curvedApostrophe:
		return between(chars, at, isLetter)
	case '.', ',':
		return between(chars, at, isDigit)
	default:
		return isLetter(code) || isDigit(code) || isMark(code)
	}
}

// between needs a character ahead.
func between(chars []Char, at int, is func(code int) bool) bool {
	return is(chars[at-1].Code) && at+1 < len(chars) && is(chars[at+1].Code)
}
