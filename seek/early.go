package seek

// early is a stage that changes characters.
type early struct {
	change func(chars []Char) []Char
}

func makeEarly(s step) early {
	switch s.name {
	case "tags":
		return early{blankTags}
	case "fold":
		return early{fold}
	}
	return early{func(chars []Char) []Char { return exchange(chars, s.pairs) }}
}

func blankTags(chars []Char) []Char {
	var out []Char
	for at := 0; at < len(chars); {
		size := tagSize(chars[at:])
		if size == 0 {
			out = append(out, chars[at])
			at++
			continue
		}
		out = append(out, Char{blank, chars[at].From, chars[at+size-1].To})
		at += size
	}
	return out
}

// tagSize is how many characters the tag has that begins them, 0 if none does.
func tagSize(chars []Char) int {
	if chars[0].Code != '<' {
		return 0
	}
	for at, c := range chars {
		if c.Code == '>' {
			return at + 1
		}
	}
	return 0
}

func fold(chars []Char) []Char {
	var out []Char
	for _, c := range chars {
		switch {
		case c.Code == 0xFB01:
			out = appendWord(out, "fi", c.From, c.To)
		case c.Code == 0xDF:
			out = appendWord(out, "ss", c.From, c.To)
		case within(c.Code, 0xFF01, 0xFF5E):
			out = append(out, Char{c.Code - 65248, c.From, c.To})
		case c.Code == 0xA0:
			out = append(out, Char{blank, c.From, c.To})
		default:
			out = append(out, c)
		}
	}
	return out
}

// appendWord appends the letters of a word, each with the same bytes.
func appendWord(chars []Char, word string, from, to int) []Char {
	for _, letter := range word {
		chars = append(chars, Char{int(letter), from, to})
	}
	return chars
}

func exchange(chars []Char, pairs []pair) []Char {
	var out []Char
	for at := 0; at < len(chars); {
		p := longestPair(chars[at:], pairs)
		size := len(p.left)
		if size == 0 {
			out = append(out, chars[at])
			at++
			continue
		}
		out = appendWord(out, p.right, chars[at].From, chars[at+size-1].To)
		at += size
	}
	return out
}

// longestPair is the pair whose left word begins the characters: of several
// the longest, of like ones the first. It is empty if there is none.
func longestPair(chars []Char, pairs []pair) pair {
	var longest pair
	for _, p := range pairs {
		if len(p.left) > len(longest.left) && beginWith(chars, p.left) {
			longest = p
		}
	}
	return longest
}

func beginWith(chars []Char, word string) bool {
	if len(word) > len(chars) {
		return false
	}
	for at, letter := range word {
		if chars[at].Code != int(letter) {
			return false
		}
	}
	return true
}
