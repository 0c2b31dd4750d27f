package seek

import "iter"

const (
	blank            = 0x20
	replacement      = 0xFFFD
	apostrophe       = 0x27
	curvedApostrophe = 0x2019
	toSmall          = 32 // how far above a capital its small form is
)

// shape is how an encoding goes on behind its first byte. Bounds on the
// second byte alone keep out all that is longer than it need be, halves of
// pairs, and what is above 1114111.
type shape struct {
	length    int // 0, if no encoding begins so
	low, high byte
}

func shapeOf(first byte) shape {
	switch {
	case first < 0x80:
		return shape{length: 1}
	case first < 0xC2 || first > 0xF4:
		return shape{}
	case first < 0xE0:
		return shape{2, 0x80, 0xBF}
	case first == 0xE0:
		return shape{3, 0xA0, 0xBF}
	case first == 0xED:
		return shape{3, 0x80, 0x9F}
	case first < 0xF0:
		return shape{3, 0x80, 0xBF}
	case first == 0xF0:
		return shape{4, 0x90, 0xBF}
	case first == 0xF4:
		return shape{4, 0x80, 0x8F}
	}
	return shape{4, 0x80, 0xBF}
}

// takes tells whether b may be the byte of that number, from 1 on.
func (s shape) takes(number int, b byte) bool {
	if number == 1 {
		return s.low <= b && b <= s.high
	}
	return 0x80 <= b && b <= 0xBF
}

// characters goes through a text whose bytes may be any: range over a string
// would take each byte of a broken encoding for a character of its own.
func characters(text string) iter.Seq[Char] {
	return func(yield func(Char) bool) {
		for at := 0; at < len(text); {
			code, size := firstCharacter(text[at:])
			if !yield(Char{code, at, at + size}) {
				return
			}
			at += size
		}
	}
}

// firstCharacter needs a text that is not empty.
func firstCharacter(text string) (code, size int) {
	s := shapeOf(text[0])
	size = 1
	for size < s.length && size < len(text) && s.takes(size, text[size]) {
		size++
	}
	if size != s.length {
		return replacement, size
	}
	return decode(text[:size]), size
}

// decode needs one well-formed encoding.
func decode(encoding string) int {
	if len(encoding) == 1 {
		return int(encoding[0])
	}
	code := int(encoding[0]) & (0xFF >> (len(encoding) + 1))
	for at := 1; at < len(encoding); at++ {
		code = code<<6 | int(encoding[at])&0x3F
	}
	return code
}

func within(code, first, last int) bool { return first <= code && code <= last }

func isLetter(code int) bool {
	switch code {
	case 0xD7, 0xF7, 0x3A2:
		return false
	}
	return within(code, 'A', 'Z') || within(code, 'a', 'z') || within(code, 0xC0, 0xFF) ||
		within(code, 0x391, 0x3C9) || within(code, 0x410, 0x44F)
}

func isDigit(code int) bool { return within(code, '0', '9') }

func isSign(code int) bool { return within(code, 0x4E00, 0x9FFF) }

func isMark(code int) bool { return within(code, 0x300, 0x36F) }

func isBlank(code int) bool { return code == 0x09 || code == 0x0A || code == blank }

func isCapital(code int) bool {
	switch code {
	case 0xD7, 0x3A2:
		return false
	}
	return within(code, 'A', 'Z') || within(code, 0xC0, 0xDE) ||
		within(code, 0x391, 0x3A9) || within(code, 0x410, 0x42F)
}

func smallForm(code int) int {
	if isCapital(code) {
		return code + toSmall
	}
	return code
}
