package seek_test

import (
	"math/rand"
	"slices"
	"strings"
	"sync"
	"testing"

	"seek/seek"
)

// pieces are what texts and chains are put together of to try the calls.
var pieces = strings.Split("words|blanks|whole|tags|fold|map(|low|stem|stop(|syn(|len(|gram(|edge(|a=b|ab=aaaaaaaa|,|)|;|1,9|2,3|abc|"+
	"a|s|ing| |\t|<|>|'|.|,|7|\u00df|\ufb01|\uff21|\u4e2d|\u0301|\u00a0|\x00|\x80|\xe2\x82|\xf0\x9f\x98|\xed\xa0|\xff|A|\u0416", "|")

func madeUp(source *rand.Rand, most int) string {
	var b strings.Builder
	for range source.Intn(most) {
		b.WriteString(pieces[source.Intn(len(pieces))])
	}
	return b.String()
}

func TestErrorsHaveTheirNumbers(t *testing.T) {
	errors := []seek.Errno{seek.OK, seek.ErrLong, seek.ErrText, seek.ErrMany, seek.ErrArg,
		seek.ErrName, seek.ErrFull, seek.ErrNone, seek.ErrDeep, seek.ErrImage}
	for number, err := range errors {
		if int(err) != number {
			t.Errorf("the error of number %d is %d", number, err)
		}
	}
}

func TestCallsTakeAnyStrings(t *testing.T) {
	source := rand.New(rand.NewSource(2))
	for range 20000 {
		text := madeUp(source, 60)
		chain := madeUp(source, 12)
		if source.Intn(2) == 0 {
			chain = chains[source.Intn(len(chains))]
		}
		splitHolds(t, text)
		analyseHolds(t, chain, text)
		analyseHolds(t, text, chain)
	}
}

func splitHolds(t *testing.T, text string) {
	t.Helper()
	chars, err := seek.Split(text)
	if err != seek.OK {
		if err != seek.ErrLong || chars != nil || len(text) <= 120 {
			t.Fatalf("Split(%q) = %v, %d", text, chars, err)
		}
		return
	}
	at := 0
	for _, c := range chars {
		if c.From != at || c.To <= at {
			t.Fatalf("Split(%q): %v at %d", text, c, at)
		}
		at = c.To
	}
	if at != len(text) {
		t.Fatalf("Split(%q) ends at %d", text, at)
	}
}

func analyseHolds(t *testing.T, chain, text string) {
	t.Helper()
	tokens, err, at := seek.Analyse(chain, text)
	checked, place := seek.Check(chain)
	if checked != seek.OK && (err != checked || at != place) {
		t.Fatalf("Analyse(%q, %q): %d, %d, but Check: %d, %d", chain, text, err, at, checked, place)
	}
	if checked == seek.OK && (at != 0 || (err == seek.ErrLong) != (len(text) > 120)) {
		t.Fatalf("Analyse(%q, %q): %d, %d", chain, text, err, at)
	}
	if err != seek.OK {
		if tokens != nil {
			t.Fatalf("Analyse(%q, %q): %d, but %d tokens", chain, text, err, len(tokens))
		}
		return
	}
	if len(tokens) > 300 {
		t.Fatalf("Analyse(%q, %q): %d tokens", chain, text, len(tokens))
	}
	chars, _ := seek.Split(text)
	begins := func(x seek.Token) bool {
		return slices.ContainsFunc(chars, func(c seek.Char) bool { return c.From == x.From })
	}
	ends := func(x seek.Token) bool {
		return slices.ContainsFunc(chars, func(c seek.Char) bool { return c.To == x.To })
	}
	for n, x := range tokens {
		if x.Term == "" || x.From >= x.To || !begins(x) || !ends(x) || n > 0 && x.Pos < tokens[n-1].Pos {
			t.Fatalf("Analyse(%q, %q): token %d is %v", chain, text, n, x)
		}
	}
}

func TestAnswersAreNewMemory(t *testing.T) {
	const chain, text = "map(a=bc);words;syn(bc=d);gram(1,2)", "a \xffx"
	tokens, _, _ := seek.Analyse(chain, text)
	want := slices.Clone(tokens)
	for n := range tokens {
		tokens[n] = seek.Token{Term: "spoilt", Pos: -1, From: -1, To: -1}
	}
	if again, _, _ := seek.Analyse(chain, text); !slices.Equal(again, want) || len(again) == 0 {
		t.Errorf("%v, want %v", again, want)
	}
	chars, _ := seek.Split(text)
	wantChars := slices.Clone(chars)
	clear(chars)
	if again, _ := seek.Split(text); !slices.Equal(again, wantChars) || len(again) == 0 {
		t.Errorf("%v, want %v", again, wantChars)
	}
}

func TestCallsAtTheSameTimeShareNothing(t *testing.T) {
	var all sync.WaitGroup
	for n := range 16 {
		all.Go(func() {
			text := strings.Repeat("ab ", 1+n)
			for range 200 {
				tokens, err, _ := seek.Analyse("map(a=b);words;low;edge(1,2)", text)
				if err != seek.OK || len(tokens) != 2*(1+n) || tokens[1].Term != "bb" {
					t.Errorf("%q: %v, %d", text, tokens, err)
				}
			}
		})
	}
	all.Wait()
}
