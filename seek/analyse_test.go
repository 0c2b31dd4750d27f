package seek_test

import (
	"fmt"
	"strings"
	"testing"

	"seek/seek"
)

// tell writes each token as term/position/first byte-byte behind the last.
func tell(tokens []seek.Token) string {
	var told []string
	for _, x := range tokens {
		told = append(told, fmt.Sprintf("%s/%d/%d-%d", x.Term, x.Pos, x.From, x.To))
	}
	return strings.Join(told, " ")
}

type analysed struct{ chain, text, want string }

func wantAnalysed(t *testing.T, cases ...analysed) {
	t.Helper()
	for _, c := range cases {
		tokens, err, at := seek.Analyse(c.chain, c.text)
		if got := tell(tokens); got != c.want || err != seek.OK || at != 0 {
			t.Errorf("Analyse(%q, %q) =\n%s, %d, %d, want\n%s", c.chain, c.text, got, err, at, c.want)
		}
	}
}

const (
	capitals   = "ABCDEFGHIJKLMNOPQRSTUVWXYZÀÁÂÃÄÅÆÇÈÉÊËÌÍÎÏÐÑÒÓÔÕÖØÙÚÛÜÝÞΑΒΓΔΕΖΗΘΙΚΛΜΝΞΟΠΡΣΤΥΦΧΨΩАБВГДЕЖЗИЙКЛМНОПРСТУФХЦЧШЩЪЫЬЭЮЯ"
	smalls     = "abcdefghijklmnopqrstuvwxyzàáâãäåæçèéêëìíîïðñòóôõöøùúûüýþαβγδεζηθικλμνξοπρστυφχψωабвгдежзийклмнопрстуфхцчшщъыьэюя"
	moreSmalls = "ßÿΪΫάέήίΰς" // letters that are their own small form
	digits     = "0123456789"
)

// someCodes are all characters of up to three bytes, and some of four.
func someCodes(each func(code rune)) {
	for code := rune(0); code < 0x10000; code++ {
		if code < 0xD800 || code > 0xDFFF {
			each(code)
		}
	}
	for _, code := range []rune{0x10000, 0x10041, 0x1F600, 0x20000, 0x10FFFF} {
		each(code)
	}
}

func terms(chain, text string) []string {
	var found []string
	tokens, _, _ := seek.Analyse(chain, text)
	for _, x := range tokens {
		found = append(found, x.Term)
	}
	return found
}

func TestWordsKnowsEveryCharacter(t *testing.T) {
	letters := capitals + smalls + moreSmalls
	someCodes(func(code rune) {
		c := string(code)
		letter := strings.Contains(letters, c)
		digit := strings.Contains(digits, c)
		sign := code >= 0x4E00 && code <= 0x9FFF
		mark := code >= 0x300 && code <= 0x36F
		if begins := len(terms("words", c)) == 1; begins != (letter || digit || sign) {
			t.Errorf("U+%04X begins a word: %v", code, begins)
		}
		goesOn := len(terms("words", "a"+c+"b")) == 1
		if want := letter || digit || mark || code == 0x27 || code == 0x2019; goesOn != want {
			t.Errorf("U+%04X between letters goes on: %v", code, goesOn)
		}
		goesOn = len(terms("words", "1"+c+"2")) == 1
		if want := letter || digit || mark || code == '.' || code == ','; goesOn != want {
			t.Errorf("U+%04X between digits goes on: %v", code, goesOn)
		}
	})
}

func TestBlanksKnowsEveryCharacter(t *testing.T) {
	someCodes(func(code rune) {
		isBlank := code == 9 || code == 10 || code == 32
		if splits := len(terms("blanks", "a"+string(code)+"b")) == 2; splits != isBlank {
			t.Errorf("U+%04X splits: %v", code, splits)
		}
	})
}

func TestLowKnowsEveryCharacter(t *testing.T) {
	small := map[rune]rune{}
	below := []rune(smalls)
	for at, code := range []rune(capitals) {
		small[code] = below[at]
	}
	someCodes(func(code rune) {
		want := code
		if s, ok := small[code]; ok {
			want = s
		}
		if got := terms("whole;low", string(code)); len(got) != 1 || got[0] != string(want) {
			t.Errorf("the small form of U+%04X is %q, want %q", code, got, want)
		}
	})
}

func TestFoldKnowsEveryCharacter(t *testing.T) {
	someCodes(func(code rune) {
		want := string(code)
		switch {
		case code == 0xFB01:
			want = "fi"
		case code == 0xDF:
			want = "ss"
		case code >= 0xFF01 && code <= 0xFF5E:
			want = string('!' + code - 0xFF01)
		case code == 0xA0:
			want = " "
		}
		if got := terms("fold;whole", string(code)); len(got) != 1 || got[0] != want {
			t.Errorf("U+%04X folds into %q, want %q", code, got, want)
		}
	})
}

func TestWords(t *testing.T) {
	wantAnalysed(t,
		analysed{"words", "", ""},
		analysed{"words", " \t\n.,'<>", ""},
		analysed{"words", "Ab1 2c", "Ab1/0/0-3 2c/1/4-6"},
		analysed{"words", "don't 'tis dogs' a''b a'1 1'a", "don't/0/0-5 tis/1/7-10 dogs/2/11-15 a/3/17-18 b/4/20-21 a/5/22-23 1/6/24-25 1/7/26-27 a/8/28-29"},
		analysed{"words", "a\u2019b a\u2019 \u2019b", "a\u2019b/0/0-5 a/1/6-7 b/2/14-15"},
		analysed{"words", "a'b'c 1.2,3.4", "a'b'c/0/0-5 1.2,3.4/1/6-13"},
		analysed{"words", "1.2. .3 4, 5,,6 7.a b.8 c.d", "1.2/0/0-3 3/1/6-7 4/2/8-9 5/3/11-12 6/4/14-15 7/5/16-17 a/6/18-19 b/7/20-21 8/8/22-23 c/9/24-25 d/10/26-27"},
		// A mark right ahead is no letter and no digit.
		analysed{"words", "e\u0301'x 1\u0301.2", "e\u0301/0/0-3 x/1/4-5 1\u0301/2/6-9 2/3/10-11"},
		analysed{"words", "\u0301a\u0301\u0302b", "a\u0301\u0302b/0/2-8"},
		analysed{"words", "\u4e2d\u6587", "\u4e2d/0/0-3 \u6587/1/3-6"},
		analysed{"words", "a\u4e2d\u0301\u0302b\u65871'\u6587", "a/0/0-1 \u4e2d\u0301\u0302/1/1-8 b/2/8-9 \u6587/3/9-12 1/4/12-13 \u6587/5/14-17"},
		analysed{"words", "a\xffb\xe2\x82c\xf0\x9f", "a/0/0-1 b/1/2-3 c/2/5-6"},
	)
}

func TestBlanksAndWhole(t *testing.T) {
	wantAnalysed(t,
		analysed{"blanks", "", ""},
		analysed{"blanks", " \n\t", ""},
		analysed{"blanks", "a,b  c\td\ne", "a,b/0/0-3 c/1/5-6 d/2/7-8 e/3/9-10"},
		analysed{"blanks", "\ra\u00a0b", "\ra\u00a0b/0/0-5"},
		analysed{"blanks", "\xffa \xe2\x82", "\ufffda/0/0-2 \ufffd/1/3-5"},
		analysed{"whole", "", ""},
		analysed{"whole", " ", " /0/0-1"},
		analysed{"whole", " a\nb\xff", " a\nb\ufffd/0/0-5"},
	)
}

func TestTags(t *testing.T) {
	wantAnalysed(t,
		analysed{"tags;whole", "a<b>c", "a c/0/0-5"},
		analysed{"tags;blanks", "x<b>y</b>z", "x/0/0-1 y/1/4-5 z/2/9-10"},
		analysed{"tags;whole", "<><>", "  /0/0-4"},
		analysed{"tags;whole", "<a<b>c>", " c>/0/0-7"},
		analysed{"tags;whole", "a>b<c", "a>b<c/0/0-5"},
		analysed{"tags;whole", "<a><b", " <b/0/0-5"},
		analysed{"tags;whole;gram(1,1)", "<a>b", " /0/0-4 b/0/0-4"},
		analysed{"fold;tags;whole", "\uff1ca\uff1eb", " b/0/0-8"},
		analysed{"tags;fold;whole", "\uff1ca\uff1eb", "<a>b/0/0-8"},
		analysed{"tags;map(a=b);words", "a<a>a", "b/0/0-1 b/1/4-5"},
		analysed{"map(a=b);tags;words", "x<a>a", "x/0/0-1 b/1/4-5"},
	)
}

func TestFoldAndMapKeepBytes(t *testing.T) {
	wantAnalysed(t,
		analysed{"fold;words", "a\u00a0\ufb01\u00df", "a/0/0-1 fiss/1/3-8"},
		analysed{"fold;words", "1\uff0e2\uff071", "1.2/0/0-5 1/1/8-9"},
		analysed{"map(a=xyz);words", "b a", "b/0/0-1 xyz/1/2-3"},
		analysed{"map(abc=x);words", "abcabc ab", "xx/0/0-6 ab/1/7-9"},
		// The longest left word wins, wherever it stands in the list; of like ones the first.
		analysed{"map(a=x,ab=y,abc=z);whole", "aababcab", "xyzy/0/0-8"},
		analysed{"map(abc=z,a=x,ab=y);whole", "aababcab", "xyzy/0/0-8"},
		analysed{"map(a=x,a=y);whole", "a", "x/0/0-1"},
		// From the left on, and what is put in is not looked at again.
		analysed{"map(aa=b);whole", "aaa", "ba/0/0-3"},
		analysed{"map(ab=x,bcd=y);whole", "abcd", "xcd/0/0-4"},
		analysed{"map(a=b,b=c);whole", "ab", "bc/0/0-2"},
		analysed{"map(a=aa);whole", "aa", "aaaa/0/0-2"},
		analysed{"map(a=b);map(b=c);whole", "ab", "cc/0/0-2"},
		analysed{"map(ab=c);whole", "a<b>Ab", "a<b>Ab/0/0-6"},
		// The bytes of a left word made of parts are all bytes of the parts.
		analysed{"map(a=bc,d=ef);map(ce=x);words", "-ad-", "bxf/0/1-3"},
		analysed{"fold;map(is=x);words", "\ufb01\u00df", "fxs/0/0-5"},
		analysed{"fold;words", "\u00df \ufb01", "ss/0/0-2 fi/1/3-6"},
		analysed{"map(x=ab);tags;words", "x<x>", "ab/0/0-1"},
	)
}

func TestLateStages(t *testing.T) {
	wantAnalysed(t,
		analysed{"words;low", "ABC \u00c4\u03a9\u042f", "abc/0/0-3 \u00e4\u03c9\u044f/1/4-10"},
		analysed{"words;low;low", "", ""},
		analysed{"whole;low", "A\xffB", "a\ufffdb/0/0-3"},
		analysed{"words;stop(a,the)", "a the A cat theta", "A/2/6-7 cat/3/8-11 theta/4/12-17"},
		analysed{"words;stop(a)", "a a", ""},
		analysed{"words;low;stop(a)", "A b", "b/1/2-3"},
		analysed{"words;stop(a);low", "A b", "a/0/0-1 b/1/2-3"},
		analysed{"words;len(2,3)", "a bb ccc dddd", "bb/1/2-4 ccc/2/5-8"},
		analysed{"words;len(1,1)", "\u00e9 \u4e2d e\u0301 bb", "\u00e9/0/0-2 \u4e2d/1/3-6"},
		analysed{"blanks;len(2,2)", "\xff\xff \xe2\x82", "\ufffd\ufffd/0/0-2"},
		analysed{"words;syn(a=b)", "x a", "x/0/0-1 a/1/2-3 b/1/2-3"},
		analysed{"words;syn(a=c,b=x,a=b,a=a)", "a b", "a/0/0-1 c/0/0-1 b/0/0-1 a/0/0-1 b/1/2-3 x/1/2-3"},
		analysed{"words;syn(a=b,b=c)", "a", "a/0/0-1 b/0/0-1"},
		analysed{"words;syn(a=b);syn(b=c)", "a", "a/0/0-1 b/0/0-1 c/0/0-1"},
		analysed{"words;gram(1,2)", "abc d", "a/0/0-3 ab/0/0-3 b/0/0-3 bc/0/0-3 c/0/0-3 d/1/4-5"},
		analysed{"words;gram(2,2)", "a abc", "ab/1/2-5 bc/1/2-5"},
		analysed{"words;gram(3,9)", "abcd ab", "abc/0/0-4 abcd/0/0-4 bcd/0/0-4"},
		analysed{"words;gram(1,2)", "\u00e9\u00ea\u00eb", "\u00e9/0/0-6 \u00e9\u00ea/0/0-6 \u00ea/0/0-6 \u00ea\u00eb/0/0-6 \u00eb/0/0-6"},
		analysed{"blanks;gram(1,1)", "\xff\u4e2d\U0001f600", "\ufffd/0/0-8 \u4e2d/0/0-8 \U0001f600/0/0-8"},
		analysed{"words;edge(1,3)", "abcd e", "a/0/0-4 ab/0/0-4 abc/0/0-4 e/1/5-6"},
		analysed{"words;edge(2,9)", "a abc", "ab/1/2-5 abc/1/2-5"},
		analysed{"words;edge(2,2)", "\u00e9\u4e2d\u00e9\u00e9", "\u00e9\u00e9/2/5-9"},
		analysed{"words;gram(2,2);stop(bc);edge(1,1)", "abcd", "a/0/0-4 c/0/0-4"},
	)
}

func TestStem(t *testing.T) {
	for _, c := range []struct{ term, want string }{
		{"asses", "ass"}, {"sses", "sse"}, {"caresses", "caress"},
		{"ponies", "pony"}, {"abies", "aby"}, {"ties", "tie"}, {"ies", "ie"}, {"aies", "aie"},
		{"ass", "ass"}, {"ss", "ss"}, {"bus", "bus"}, {"us", "us"},
		{"abs", "ab"}, {"as", "as"}, {"s", "s"}, {"cats", "cat"},
		{"abcing", "abc"}, {"abing", "abing"}, {"ing", "ing"}, {"runnings", "running"},
		{"abcedly", "abc"}, {"abedly", "abed"}, {"abced", "abc"}, {"abed", "abed"},
		{"abcly", "abc"}, {"ably", "ably"}, {"edly", "edly"}, {"aedly", "aed"},
		{"abceding", "abced"}, {"cat", "cat"}, {"a", "a"}, {"azs", "az"}, {"abc{s", "abc{s"}, {"abc`s", "abc`s"}, {"abcs1", "abcs1"},
		{"Cats", "Cats"}, {"cat's", "cat's"}, {"\u00e9abs", "\u00e9abs"}, {"abc-ing", "abc-ing"},
	} {
		wantAnalysed(t, analysed{"whole;stem", c.term, fmt.Sprintf("%s/0/0-%d", c.want, len(c.term))})
	}
	wantAnalysed(t,
		analysed{"whole;low;stem", "CATS", "cat/0/0-4"},
		analysed{"whole;stem;low", "CATS", "cats/0/0-4"},
		analysed{"whole;stem;stem", "runnings", "runn/0/0-8"},
	)
}

func wantRefused(t *testing.T, chain, text string, err seek.Errno, at int) {
	t.Helper()
	tokens, e, place := seek.Analyse(chain, text)
	if tokens != nil || e != err || place != at {
		t.Errorf("Analyse(%q, %d bytes) = %d tokens, %d, %d, want none, %d, %d", chain, len(text), len(tokens), e, place, err, at)
	}
}

func TestAnalyseTellsTheErrorOfCheckFirst(t *testing.T) {
	long := strings.Repeat("x", 121)
	wantRefused(t, strings.Repeat("x", 81), long, seek.ErrLong, 0)
	wantRefused(t, "", long, seek.ErrText, 0)
	wantRefused(t, "words;len(2,1)", long, seek.ErrText, 12)
	wantRefused(t, "words"+strings.Repeat(";low", 8), long, seek.ErrMany, 0)
	wantRefused(t, "words", long, seek.ErrLong, 0)
	wantRefused(t, "whole;gram(1,9)", long, seek.ErrLong, 0)
	wantAnalysed(t, analysed{"whole;len(9,9)", long[:120], ""})
}

func TestAnalyseBoundsTokensBehindEachStage(t *testing.T) {
	count := func(chain, text string, want int) {
		t.Helper()
		tokens, err, at := seek.Analyse(chain, text)
		if len(tokens) != want || err != seek.OK || at != 0 {
			t.Errorf("Analyse(%q, %q): %d tokens, %d, %d, want %d", chain, text, len(tokens), err, at, want)
		}
	}
	most := strings.Repeat("x", 41)
	count("words;gram(1,8)", most, 300)
	wantRefused(t, "words;gram(1,8)", most+" y", seek.ErrMany, 0)
	wantRefused(t, "words;gram(1,8)", "y "+most, seek.ErrMany, 0)
	// One stage that has too many is too much, even if a later one drops them.
	count("words;gram(1,8);stop(x);len(9,9)", most, 0)
	wantRefused(t, "words;gram(1,8);len(9,9)", most+" y", seek.ErrMany, 0)
	count("words;len(9,9);gram(1,8)", most+" y", 0)
	sixty := strings.Repeat("a ", 60)
	count("words", sixty, 60)
	count("words;syn(a=b,a=c,a=d,a=e)", sixty, 300)
	wantRefused(t, "words;syn(a=b,a=c,a=d,a=e,a=f)", sixty, seek.ErrMany, 0)
	count("blanks;edge(1,5)", strings.Repeat("abcdef ", 17), 85)
	wantRefused(t, "words;syn(a=b,a=c,a=d,a=e);syn(b=a)", sixty, seek.ErrMany, 0)
}

// The longest row of characters that a chain can make of a text.
func TestAnalyseTakesWhatGrowsMost(t *testing.T) {
	grow := strings.Repeat("map(a=aaaaaaaa);", 4)
	text := strings.Repeat("a", 120)
	tokens, err, at := seek.Analyse(grow+"whole", text)
	if err != seek.OK || at != 0 || len(tokens) != 1 || len(tokens[0].Term) != 120*8*8*8*8 || tokens[0].To != 120 {
		t.Errorf("%d tokens, %d, %d", len(tokens), err, at)
	}
	wantAnalysed(t, analysed{grow + "words;edge(1,2)", text, "a/0/0-120 aa/0/0-120"})
	wantRefused(t, grow+"words;gram(9,9)", text, seek.ErrMany, 0)
}
