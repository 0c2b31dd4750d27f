package seek_test

import (
	"slices"
	"strings"
	"testing"
	"unicode/utf8"

	"seek/seek"
)

// beginnings counts, for each text that begins a well-formed encoding but is
// none, the encodings that it begins.
func beginnings() map[string]int {
	found := map[string]int{}
	for code := rune(0); code <= 1114111; code++ {
		if code >= 55296 && code <= 57343 {
			continue
		}
		encoding := string(code)
		for n := 1; n < len(encoding); n++ {
			found[encoding[:n]]++
		}
	}
	return found
}

// splitBySearch says again what a text's characters are, by search alone.
func splitBySearch(text string, begins map[string]int) []seek.Char {
	var chars []seek.Char
	for at := 0; at < len(text); {
		code, size := 0xFFFD, 1
		for n := 1; n <= 4 && at+n <= len(text); n++ {
			piece := text[at : at+n]
			if begins[piece] > 0 {
				size = n
			}
			if utf8.ValidString(piece) && utf8.RuneCountInString(piece) == 1 {
				r, _ := utf8.DecodeRuneInString(piece)
				code, size = int(r), n
				break
			}
		}
		chars = append(chars, seek.Char{Code: code, From: at, To: at + size})
		at += size
	}
	return chars
}

func wantSplit(t *testing.T, text string, want []seek.Char) {
	t.Helper()
	got, err := seek.Split(text)
	if err != seek.OK || !slices.Equal(got, want) {
		t.Fatalf("Split(%q) = %v, %d, want %v", text, got, err, want)
	}
}

func TestSplitTellsCodesAndBytes(t *testing.T) {
	wantSplit(t, "", nil)
	wantSplit(t, "a\u00e9", []seek.Char{{Code: 'a', From: 0, To: 1}, {Code: 0xe9, From: 1, To: 3}})
	wantSplit(t, "\xe2\x82A", []seek.Char{{Code: 0xFFFD, From: 0, To: 2}, {Code: 'A', From: 2, To: 3}})
	wantSplit(t, "\xf0\x80", []seek.Char{{Code: 0xFFFD, From: 0, To: 1}, {Code: 0xFFFD, From: 1, To: 2}})
	wantSplit(t, "\uFFFD\xff", []seek.Char{{Code: 0xFFFD, From: 0, To: 3}, {Code: 0xFFFD, From: 3, To: 4}})
}

func TestSplitReadsEveryCodePoint(t *testing.T) {
	for code := 0; code <= 1114111; code++ {
		if code >= 55296 && code <= 57343 {
			continue
		}
		text := string(rune(code)) + "x"
		got, err := seek.Split(text)
		want := seek.Char{Code: code, From: 0, To: len(text) - 1}
		if err != seek.OK || len(got) != 2 || got[0] != want {
			t.Fatalf("Split(%q) = %v, %d, want %v first", text, got, err, want)
		}
	}
}

func TestSplitMendsBrokenBytes(t *testing.T) {
	begins := beginnings()
	for first := range 256 {
		for second := range 256 {
			text := string([]byte{byte(first), byte(second)})
			wantSplit(t, text, splitBySearch(text, begins))
		}
	}
	// The bytes on both sides of each bound of the encoding.
	bounds := "a\x7f\x80\x8f\x90\x9f\xa0\xbf\xc0\xc1\xc2\xdf\xe0\xe1\xec\xed\xee\xef\xf0\xf1\xf3\xf4\xf5\xff"
	inner := "a\x7f\x80\x8f\x90\x9f\xa0\xbf\xc0\xe2\xf0"
	for _, first := range []byte(bounds) {
		for _, second := range []byte(bounds) {
			for _, third := range []byte(inner) {
				for _, fourth := range []byte(inner) {
					text := string([]byte{first, second, third, fourth, 'z'})
					wantSplit(t, text, splitBySearch(text, begins))
					wantSplit(t, text[:3], splitBySearch(text[:3], begins))
					wantSplit(t, text[:4], splitBySearch(text[:4], begins))
				}
			}
		}
	}
}

func TestSplitKeepsToItsBound(t *testing.T) {
	if chars, err := seek.Split(strings.Repeat("x", 120)); err != seek.OK || len(chars) != 120 {
		t.Errorf("120 bytes: %d characters, %d", len(chars), err)
	}
	// Bytes count, not characters.
	for _, text := range []string{strings.Repeat("x", 121), strings.Repeat("\u4e2d", 41)} {
		if chars, err := seek.Split(text); err != seek.ErrLong || chars != nil {
			t.Errorf("%d bytes: %v, %d, want none, ErrLong", len(text), chars, err)
		}
	}
}
