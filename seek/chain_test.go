package seek_test

import (
	"fmt"
	"math/rand"
	"regexp"
	"slices"
	"strings"
	"testing"

	"seek/seek"
)

// chainShape is the grammar of chains, said again.
var chainShape = func() *regexp.Regexp {
	word := "[a-z]{1,8}"
	pair := word + "=" + word
	var numbers []string
	for n := 1; n <= 9; n++ {
		numbers = append(numbers, fmt.Sprintf("%d,[%d-9]", n, n))
	}
	early := fmt.Sprintf(`tags|fold|map\(%s(,%s)*\)`, pair, pair)
	late := fmt.Sprintf(`low|stem|stop\(%s(,%s)*\)|syn\(%s(,%s)*\)|(len|gram|edge)\((%s)\)`,
		word, word, pair, pair, strings.Join(numbers, "|"))
	return regexp.MustCompile(`\A((` + early + `);)*(words|blanks|whole)(;(` + late + `))*\z`)
}()

var chains = []string{
	"words", "blanks", "whole",
	"tags;words", "fold;blanks", "map(a=b);whole", "map(abcdefgh=ijklmnop,q=r,q=s);words",
	"tags;tags;fold;map(x=y);map(y=z);words",
	"words;low", "words;stem", "words;stop(a)", "words;stop(the,abcdefgh,a)",
	"blanks;syn(a=b)", "blanks;syn(car=auto,car=tv,z=z)",
	"whole;len(1,9)", "whole;gram(2,2)", "whole;edge(9,9)", "whole;edge(3,7)",
	"tags;fold;map(a=b);words;low;stem;stop(a);len(1,2)",
}

func wantCheck(t *testing.T, chain string, err seek.Errno, at int) {
	t.Helper()
	if e, place := seek.Check(chain); e != err || place != at {
		t.Errorf("Check(%q) = %d, %d, want %d, %d", chain, e, place, err, at)
	}
}

func TestCheckTakesChains(t *testing.T) {
	for _, chain := range chains {
		wantCheck(t, chain, seek.OK, 0)
	}
}

func TestCheckTellsTheFirstWrongByte(t *testing.T) {
	for _, c := range []struct {
		chain string
		at    int
	}{
		{"", 0}, {"x", 0}, {"W", 0}, {" words", 0}, {";words", 0}, {"low", 0}, {"\xff", 0}, {"\x00", 0},
		{"wards", 1}, {"wo", 2}, {"whale", 2}, {"whole ", 5}, {"wordswords", 5}, {"words;;", 6},
		{"blank;", 5}, {"blanks;fold", 7}, {"tags;;", 5}, {"tags,words", 4}, {"tags;low", 5}, {"fold", 4}, {"fold;", 5},
		{"map", 3}, {"map;", 3}, {"map()", 4}, {"map(a)", 5}, {"map(a,b=c);words", 5}, {"map(a=b=c);words", 7},
		{"map(a=b)words", 8}, {"map(a=b", 7}, {"map(a=b,", 8}, {"map(a=b,)", 8}, {"map(a= b)", 6},
		{"map(abcdefghi=a);words", 12}, {"map(a=abcdefghi);words", 14}, {"map(1=a)", 4},
		{"words;s", 7}, {"words;sx", 7}, {"words;st", 8}, {"words;sta", 8}, {"words;sy", 8}, {"words;sync", 9},
		{"words;l", 7}, {"words;lo", 8}, {"words;le", 8}, {"words;la", 7}, {"words;lowl", 9}, {"words;stem(a)", 10},
		{"words;stop(a=b)", 12}, {"words;stop(a b)", 12}, {"words;stop(a,,b)", 13}, {"words;syn(a)", 11}, {"words;syn(a=b,c)", 15},
		{"words;len(", 10}, {"words;len(0,3)", 10}, {"words;len(1", 11}, {"words;len(1;3)", 11}, {"words;len(1,0)", 12},
		{"words;len(12,3)", 11}, {"words;len(1,23)", 13}, {"words;gram(5,4)", 13}, {"words;edge(9,8)", 13}, {"words;edge(9,9", 14},
		{"words;low;words", 10}, {"words;tags", 6}, {"words\n", 5}, {"words;Low", 6},
	} {
		wantCheck(t, c.chain, seek.ErrText, c.at)
	}
}

func TestCheckAsksForMoreWhereMoreWouldDo(t *testing.T) {
	for _, chain := range chains {
		for n := range chain {
			if chainShape.MatchString(chain[:n]) {
				wantCheck(t, chain[:n], seek.OK, 0)
			} else {
				wantCheck(t, chain[:n], seek.ErrText, n)
			}
		}
	}
}

func TestCheckCountsStages(t *testing.T) {
	wantCheck(t, "tags;tags;tags;tags;tags;tags;tags;words", seek.OK, 0)
	wantCheck(t, "tags;tags;tags;tags;tags;tags;tags;tags;words", seek.ErrMany, 0)
	wantCheck(t, "words"+strings.Repeat(";low", 7), seek.OK, 0)
	wantCheck(t, "words"+strings.Repeat(";low", 8), seek.ErrMany, 0)
	wantCheck(t, "fold;fold;fold;fold;whole;low;low;low", seek.OK, 0)
	wantCheck(t, "fold;fold;fold;fold;whole;low;low;low;low", seek.ErrMany, 0)
	// What is no chain is so ahead of being too many stages.
	wantCheck(t, "words"+strings.Repeat(";low", 12)+";", seek.ErrText, 54)
	wantCheck(t, strings.Repeat("tags;", 12), seek.ErrText, 60)
}

func TestCheckKeepsToItsBound(t *testing.T) {
	eighty := "words;stop(" + strings.Repeat("abcdefg,", 8) + "abcd)"
	if len(eighty) != 80 {
		t.Fatalf("%d bytes", len(eighty))
	}
	wantCheck(t, eighty, seek.OK, 0)
	wantCheck(t, strings.Replace(eighty, "abcd)", "abcde)", 1), seek.ErrLong, 0)
	wantCheck(t, strings.Repeat("x", 80), seek.ErrText, 0)
	wantCheck(t, strings.Repeat("x", 81), seek.ErrLong, 0)
	wantCheck(t, "words"+strings.Repeat(";low", 19), seek.ErrLong, 0)
}

// endings are texts of which one makes a chain of each text that begins one:
// the rest of a stage, and a cutter if there is none yet.
var endings = func() []string {
	found := []string{"", "words"}
	stages := "tags fold map(a=a) words blanks whole low stem stop(a) syn(a=a) len(9,9) gram(9,9) edge(9,9)"
	for _, stage := range strings.Fields(stages) {
		for at := range stage {
			found = append(found, stage[at:], stage[at:]+";words")
		}
	}
	found = append(found, ";words")
	slices.Sort(found)
	return slices.Compact(found)
}()

// completed is a chain that begins with these bytes, or "".
func completed(begin string) string {
	for _, end := range endings {
		if chainShape.MatchString(begin + end) {
			return begin + end
		}
	}
	return ""
}

// Whether a text is a chain must agree with the grammar; and the place must
// be one up to which a chain could go, the byte at it one that ends all hope.
func TestCheckAgreesWithTheGrammar(t *testing.T) {
	source := rand.New(rand.NewSource(1))
	bytes := "abhgestw(),;=0123459 <X\xff"
	for range 20000 {
		text := []byte(chains[source.Intn(len(chains))])
		for range 1 + source.Intn(2) {
			at := source.Intn(len(text))
			one := bytes[source.Intn(len(bytes))]
			switch source.Intn(3) {
			case 0:
				text[at] = one
			case 1:
				text = append(text[:at], text[at+1:]...)
				text = append(text, one)
			case 2:
				text = append(text[:at+1], text[at:]...)
				text[at] = one
			}
		}
		checkAgrees(t, string(text))
	}
}

func checkAgrees(t *testing.T, chain string) {
	t.Helper()
	err, at := seek.Check(chain)
	if isChain := chainShape.MatchString(chain); isChain != (err != seek.ErrText) {
		t.Fatalf("Check(%q) = %d, %d, but the grammar says %v", chain, err, at, isChain)
	}
	if err != seek.ErrText {
		return
	}
	if at < 0 || at > len(chain) {
		t.Fatalf("Check(%q): the place is %d", chain, at)
	}
	if completed(chain[:at]) == "" {
		t.Fatalf("Check(%q): the place is %d, but no chain begins with %q", chain, at, chain[:at])
	}
	if at < len(chain) && completed(chain[:at+1]) != "" {
		t.Fatalf("Check(%q): the place is %d, but %q is a chain", chain, at, completed(chain[:at+1]))
	}
}
