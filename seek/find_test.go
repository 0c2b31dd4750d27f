package seek_test

import (
	"fmt"
	"math/rand"
	"regexp"
	"runtime"
	"slices"
	"strings"
	"sync"
	"testing"
	"time"

	"seek/seek"
)

func TestFindAsksFields(t *testing.T) {
	e := engineOf(t, "body", "words;low;stem", "title", "words", "tag", "whole")
	put(t, e, 9, "Red cars", "Red", "red cars")
	put(t, e, 3, "a car", "cars", "")
	put(t, e, 6, "", "", "car")
	// Each field takes the same text apart by its own chain.
	wantFound(t, e, "cars", 3, 9)
	wantFound(t, e, "car", 3, 6, 9)
	wantFound(t, e, "body:CARS", 3, 9)
	wantFound(t, e, "title:cars", 3)
	wantFound(t, e, "title:car")
	wantFound(t, e, "tag:car", 6)
	wantFound(t, e, `"red cars"`, 9)
	wantFound(t, e, `tag:"red cars"`, 9)
	wantFound(t, e, `title:"red cars"`)
	wantFound(t, e, `title:Red`, 9)
	// The words of one text must stand in one field.
	wantFound(t, e, `"Red a"`)
	wantFound(t, e, "Red & cars", 9)
	wantFound(t, e, "tag")
}

func TestFindAsksForRowsOfTerms(t *testing.T) {
	e := engineOf(t, "a", "words;low;stop(of,the);syn(car=auto)")
	put(t, e, 1, "king of the hill")
	put(t, e, 2, "king hill")
	put(t, e, 3, "the hill king of a hill king")
	put(t, e, 4, "one car park two")
	put(t, e, 5, "auto park")
	put(t, e, 6, "king or hill")
	wantFound(t, e, `"king hill"`, 2)
	wantFound(t, e, `"hill king"`, 3)
	// Where a word was dropped, any may stand, but one must.
	wantFound(t, e, `"king the hill"`, 6)
	wantFound(t, e, `"king of the hill"`, 1, 3)
	wantFound(t, e, `"king the of hill"`, 1, 3)
	wantFound(t, e, `"king or hill"`, 6)
	// What was dropped ahead of the first or behind the last one asks nothing,
	// so the number may be below 0.
	wantFound(t, e, `"the of the king hill"`, 2)
	wantFound(t, e, `"king hill of the"`, 2)
	wantFound(t, e, `the`)
	wantFound(t, e, `"the of"`)
	// One of the terms at a position is enough, in the text and in the document.
	wantFound(t, e, `"car park"`, 4, 5)
	wantFound(t, e, `"auto park"`, 4, 5)
	wantFound(t, e, `"park auto"`)
	wantFound(t, e, `"car two"`)
	wantFound(t, e, `"hill king the a hill king"`, 3)
	wantFound(t, e, `"hill king a the hill king"`)
	wantFound(t, e, `"a hill king hill"`)
}

func TestFindAsksForPieces(t *testing.T) {
	e := engineOf(t, "a", "words;gram(2,2)", "b", "blanks;edge(1,2)")
	put(t, e, 1, "abcd xyz", "")
	put(t, e, 2, "", "hello world")
	// Any piece at a position will do.
	wantFound(t, e, "a:bc", 1)
	wantFound(t, e, "a:zab", 1)
	wantFound(t, e, "a:ac")
	wantFound(t, e, `a:"qcd yzq"`, 1)
	wantFound(t, e, `a:"yz cd"`)
	wantFound(t, e, "a:a")
	wantFound(t, e, "b:hippo", 2)
	wantFound(t, e, `b:"hippo whale"`, 2)
	wantFound(t, e, `b:"whale hippo"`)
}

func TestFindTakesAnyBytes(t *testing.T) {
	e := engineOf(t, "a", "blanks")
	put(t, e, 1, "\xff x")
	put(t, e, 2, "\xe2\x82 \x00\r")
	put(t, e, 3, "!a (b)&|:")
	wantFound(t, e, "\xff", 1, 2)
	wantFound(t, e, "\xf0\x9f", 1, 2)
	wantFound(t, e, "\ufffd", 1, 2)
	wantFound(t, e, "\"\xfe x\"", 1)
	wantFound(t, e, "\x00\r", 2)
	wantFound(t, e, `"(b)&|:"`, 3)
	wantFound(t, e, "\"!a\n(b)&|:\"", 3)
	wantFound(t, e, "\"\xf0\x80 x\"")
}

func TestFindJoinsQuestions(t *testing.T) {
	e := engineOf(t, "t", "words")
	for id, text := range []string{"", "a", "b", "a b", "c", "a c", "b c", "a b c"} {
		put(t, e, id, text)
	}
	wantFound(t, e, "a", 1, 3, 5, 7)
	wantFound(t, e, "!a", 0, 2, 4, 6)
	wantFound(t, e, "a&b", 3, 7)
	wantFound(t, e, "a|b", 1, 2, 3, 5, 6, 7)
	wantFound(t, e, "a|b&c", 1, 3, 5, 6, 7)
	wantFound(t, e, "b&c|a", 1, 3, 5, 6, 7)
	wantFound(t, e, "(a|b)&c", 5, 6, 7)
	wantFound(t, e, "!a&b", 2, 6)
	wantFound(t, e, "!(a&b)", 0, 1, 2, 4, 5, 6)
	wantFound(t, e, "!a|b", 0, 2, 3, 4, 6, 7)
	wantFound(t, e, "!!a", 1, 3, 5, 7)
	wantFound(t, e, "!!!a", 0, 2, 4, 6)
	wantFound(t, e, "a&b&c", 7)
	wantFound(t, e, "a|b|c", 1, 2, 3, 4, 5, 6, 7)
	wantFound(t, e, "!a&!b&!c", 0)
	wantFound(t, e, "a & !a")
	wantFound(t, e, "((((a))&((b))))", 3, 7)
	wantFound(t, e, " \t\n( \na\t) &\n! t:b ", 1, 5)
	wantFound(t, e, "t:a&t:b|t:c&!t:a", 3, 4, 6, 7)
}

// The error of every query here is its grammar's.
func TestFindTellsTheFirstWrongByte(t *testing.T) {
	e := engineOf(t, "a", "words")
	for _, c := range []struct {
		query string
		at    int
	}{
		{"", 0}, {" ", 1}, {" \n\t ", 4}, {"&", 0}, {"|", 0}, {")", 0}, {":", 0}, {" :a", 1}, {"(", 1}, {"!", 1}, {"( ", 2}, {"! ", 2},
		{"a b", 2}, {"a(b)", 1}, {"(a)b", 3}, {"(a)(b)", 3}, {"a!", 1}, {"(a)!b", 3}, {"a !b", 2},
		{"a&", 2}, {"a& ", 3}, {"a&&b", 2}, {"a|&b", 2}, {"a||b", 2}, {"a&|b", 2}, {"a&)", 2}, {"a)", 1}, {"(a))", 3}, {"()", 1}, {"(a", 2}, {"((a)", 4}, {"!)", 1}, {"!&a", 1}, {"(a&)", 3}, {"(|a)", 1},
		{`"`, 1}, {`"a`, 2}, {`"a b&(`, 6}, {`"a"b`, 3}, {`"a""b"`, 3}, {`"a" "b"`, 4}, {`a"b"`, 1}, {`a "`, 2},
		{"a:", 2}, {"a: b", 2}, {"a :b", 2}, {"a: :b", 2}, {"a::b", 2}, {"a:(b)", 2}, {"a:!b", 2}, {"a:&b", 2}, {"a:)", 2}, {`a:"`, 3}, {`a:"b`, 4}, {`a:"b":c`, 5},
		{"a:b:c", 3}, {"a:b: c", 3}, {`"a":b`, 3}, {"A:b", 1}, {"a1:b", 2}, {"\u00e4:b", 2}, {"aB:c", 2}, {"a-b:c", 3}, {"(a:)", 3}, {"a:\tb", 2}, {"a\n:b", 2},
		{"a\vb:c", 3}, {"\r:", 1}, {"\xff:a", 1},
	} {
		wantNoFind(t, e, c.query, seek.ErrText, c.at)
	}
}

func TestFindBoundsDepth(t *testing.T) {
	e := engineOf(t, "a", "words")
	put(t, e, 1, "x")
	wantFound(t, e, "((((((x))))))", 1)
	wantFound(t, e, "!!!!!!x", 1)
	wantFound(t, e, "!(!(!(x)))")
	wantFound(t, e, "!!x|!!!x&((((x))))", 1)
	wantFound(t, e, `"(((((((("|((((((x))))))`, 1)
	wantFound(t, e, "(((((x)&((x)|!x)))))", 1)
	wantNoFind(t, e, "(((((((x)))))))", seek.ErrDeep, 6)
	wantNoFind(t, e, "!!!!!!!x", seek.ErrDeep, 6)
	wantNoFind(t, e, "!!!!!!(x)", seek.ErrDeep, 6)
	wantNoFind(t, e, "((((((!x))))))", seek.ErrDeep, 6)
	wantNoFind(t, e, " ! ( ! ( ! ( ! ( x ) ) ) ) ", seek.ErrDeep, 13)
	wantNoFind(t, e, "x&((((((x|!x))))))", seek.ErrDeep, 10)
	wantNoFind(t, e, "!!!!!!x|(((((((((x)))))))))|!!!!!!!x", seek.ErrDeep, 14)
	wantNoFind(t, e, strings.Repeat("!", 99)+"x", seek.ErrDeep, 6)
	wantNoFind(t, e, strings.Repeat("(", 49)+"xx"+strings.Repeat(")", 49), seek.ErrDeep, 6)
	// What is no query is so, however deep.
	wantNoFind(t, e, strings.Repeat("(", 100), seek.ErrText, 100)
	wantNoFind(t, e, "!!!!!!!x)", seek.ErrText, 8)
}

func TestFindKnowsNames(t *testing.T) {
	e := engineOf(t, "b", "words", "abcdefgh", "words")
	put(t, e, 1, "x", "y")
	wantFound(t, e, "b:x & abcdefgh:y", 1)
	wantFound(t, e, "b", nil...)
	wantNoFind(t, e, "a:x", seek.ErrName, 0)
	wantNoFind(t, e, "abcdefghi:x", seek.ErrName, 0)
	wantNoFind(t, e, "abcdefg:x", seek.ErrName, 0)
	wantNoFind(t, e, `b:x|!( bb:"x" & c:x)`, seek.ErrName, 7)
	wantNoFind(t, e, `b:x|a:a`, seek.ErrName, 4)
	// What is too deep is told ahead of a name.
	wantNoFind(t, e, "a:x|!!!!!!!x", seek.ErrDeep, 10)
	wantNoFind(t, e, strings.Repeat("q", 98)+":x", seek.ErrName, 0)
}

func TestFindBoundsTokens(t *testing.T) {
	e := engineOf(t, "a", "words", "b", "whole;gram(1,9)", "c", "words;gram(1,9)")
	put(t, e, 1, "x", "x", "x")
	most := strings.Repeat("x", 37)
	many := most + "x"
	wantFound(t, e, most, 1)
	wantFound(t, e, "a:"+many)
	wantNoFind(t, e, many, seek.ErrMany, 0)
	wantNoFind(t, e, "b:"+many, seek.ErrMany, 2)
	wantNoFind(t, e, ` c:"`+many+`"`, seek.ErrMany, 3)
	wantNoFind(t, e, `!("`+many+`")`, seek.ErrMany, 2)
	wantNoFind(t, e, `a:`+many+`|b:"`+many+`"`, seek.ErrMany, 43)
	// Of two the first is told, even if it is too much for a later field.
	blank := strings.Repeat("- ", 20)
	wantNoFind(t, e, `x&b:"`+blank+`"|c:`+many, seek.ErrMany, 4)
	wantNoFind(t, e, "x&c:"+many+`|b:"`+blank+`"`, seek.ErrMany, 4)
	wantNoFind(t, e, "b:"+many+"|d:x", seek.ErrName, 41)
	wantNoFind(t, e, "b:"+many+"|!!!!!!!x", seek.ErrDeep, 47)
}

func TestFindKeepsToItsBound(t *testing.T) {
	e := engineOf(t, "a", "blanks")
	hundred := strings.Repeat("x", 100)
	put(t, e, 1, hundred)
	wantFound(t, e, hundred, 1)
	wantFound(t, e, `"`+hundred[2:]+`"`)
	wantNoFind(t, e, hundred+"x", seek.ErrLong, 0)
	wantNoFind(t, e, hundred+" ", seek.ErrLong, 0)
	wantNoFind(t, e, strings.Repeat("(", 101), seek.ErrLong, 0)
	wantNoFind(t, e, strings.Repeat("\u4e2d", 34), seek.ErrLong, 0)
	wantNoFind(t, e, strings.Repeat("a&", 50), seek.ErrText, 100)
}

// The texts of a query may grow as much as those of documents.
func TestFindTakesWhatGrowsMost(t *testing.T) {
	chain := strings.Repeat("map(a=aaaaaaaa);", 4) + "whole"
	e := engineOf(t, "x", chain, "y", chain+";edge(9,9)", "z", chain)
	text := strings.Repeat("a", 100)
	for id := range 3 {
		put(t, e, id, text[:100-id], text, "b")
	}
	wantFound(t, e, "x:"+text[:98], 2)
	wantFound(t, e, "x:"+text[:97])
	wantFound(t, e, strings.Repeat("x:a|", 24)+"z:b", 0, 1, 2)
	wantFound(t, e, text, 0, 1, 2)
}

// isQuery says the grammar of queries again: what is a text is exchanged for
// T, and what is a query of T's for one.
func isQuery(text string) bool {
	signs := queryPiece.ReplaceAllStringFunc(text, func(piece string) string {
		switch {
		case strings.Trim(piece, " \t\n") == "":
			return ""
		case len(piece) > 1 && piece[0] == '"' || !strings.Contains(`()&|!:"`, piece[:1]):
			return "T"
		}
		return piece
	})
	for before := ""; signs != before; {
		before = signs
		for _, rule := range [][2]string{{"!T", "T"}, {"(T)", "T"}} {
			signs = strings.ReplaceAll(signs, rule[0], rule[1])
		}
		signs = joined.ReplaceAllString(signs, "T")
	}
	return signs == "T"
}

var (
	queryPiece = regexp.MustCompile(`(?s:([a-z]+:)?("[^"]*"|[^ \t\n()&|!:"]+)|[ \t\n]+|.)`)
	joined     = regexp.MustCompile(`T([&|]T)+`)
)

// finished is a query that begins with these bytes, or "".
func finished(begin string) string {
	for _, end := range []string{"", "a", `"`, ":a"} {
		for closing := range 12 {
			if text := begin + end + strings.Repeat(")", closing); isQuery(text) {
				return text
			}
		}
	}
	return ""
}

func TestFindAgreesWithTheGrammar(t *testing.T) {
	e := engineOf(t, "a", "words", "ab", "words")
	source := rand.New(rand.NewSource(3))
	parts := strings.Split("( ) & | ! : \" a ab a: ab: b x1 \"a\" \"(\" \x00", " ")
	parts = append(parts, " ", "\t", "\n", "\xc3", "\u00e9")
	for range 20000 {
		var b strings.Builder
		for range source.Intn(10) {
			b.WriteString(parts[source.Intn(len(parts))])
		}
		query := b.String()
		_, err, at := e.Find(query)
		if isQuery(query) != (err != seek.ErrText) {
			t.Fatalf("Find(%q): %d, %d, but the grammar says %v", query, err, at, isQuery(query))
		}
		if err != seek.ErrText {
			continue
		}
		if at < 0 || at > len(query) || finished(query[:at]) == "" {
			t.Fatalf("Find(%q): the place is %d, but no query begins so", query, at)
		}
		if at < len(query) && finished(query[:at+1]) != "" {
			t.Fatalf("Find(%q): the place is %d, but %q is a query", query, at, finished(query[:at+1]))
		}
	}
}

// library is an engine, and its documents as they were put.
type library struct {
	engine *seek.Engine
	fields []seek.Field
	docs   map[int][]string
}

// newLibrary makes one without documents, with one to three fields.
func newLibrary(source *rand.Rand) library {
	fields := fieldsOf("b", "tags;fold;words;low;stop(the,a);stem;syn(car=auto,car=x)",
		"t", "words;gram(2,3)", "u", "map(ca=x);blanks;edge(1,2)")[:1+source.Intn(3)]
	e, _, _ := seek.New(fields)
	return library{e, fields, map[int][]string{}}
}

// asks says again what a text asks of a field, by trying every number.
func (l library) asks(text string, field, id int) bool {
	asked, _, _ := seek.Analyse(l.fields[field].Chain, text)
	there, _, _ := seek.Analyse(l.fields[field].Chain, l.docs[id][field])
	stands := func(x seek.Token, number int) bool {
		return slices.ContainsFunc(asked, func(a seek.Token) bool {
			return a.Pos == x.Pos && slices.ContainsFunc(there, func(d seek.Token) bool {
				return d.Term == a.Term && d.Pos == x.Pos+number
			})
		})
	}
	for number := -20; number <= 20 && len(asked) > 0; number++ {
		if !slices.ContainsFunc(asked, func(x seek.Token) bool { return !stands(x, number) }) {
			return true
		}
	}
	return false
}

// asker makes a query that nests at most so deep, and what tells whether it
// holds for a document. It binds as tightly as level asks: 0 for a query, 1
// for what & joins, 2 for what ! takes.
func (l library) asker(source *rand.Rand, depth, level int) (string, func(id int) bool) {
	blank := func() string { return []string{"", "", "", " ", "\n"}[source.Intn(5)] }
	kind := source.Intn(8)
	switch {
	case depth > 0 && kind < 2:
		text, holds := l.asker(source, depth-1, 2)
		return blank() + "!" + text, func(id int) bool { return !holds(id) }
	case depth > 0 && kind < 5:
		sign, binds := []string{"|", "&"}[kind%2], 1+kind%2
		left, a := l.asker(source, depth-1, binds)
		right, b := l.asker(source, depth-1, binds)
		text := left + blank() + sign + blank() + right
		if level >= binds || source.Intn(4) == 0 {
			text = blank() + "(" + text + ")" + blank()
		}
		if sign == "|" {
			return text, func(id int) bool { return a(id) || b(id) }
		}
		return text, func(id int) bool { return a(id) && b(id) }
	}
	return l.textAsker(source)
}

func (l library) textAsker(source *rand.Rand) (string, func(id int) bool) {
	text := words(source, 3)
	written := `"` + text + `"`
	if !strings.ContainsAny(text, " ") && text != "" {
		written = text
	}
	field := source.Intn(len(l.fields) + 1)
	if field < len(l.fields) {
		written = l.fields[field].Name + ":" + written
		return written, func(id int) bool { return l.asks(text, field, id) }
	}
	return written, func(id int) bool {
		for field := range l.fields {
			if l.asks(text, field, id) {
				return true
			}
		}
		return false
	}
}

func words(source *rand.Rand, most int) string {
	known := []string{"a", "the", "cat", "cats", "car", "Car", "auto", "x", "\u00df"}
	var list []string
	for range source.Intn(most + 1) {
		list = append(list, known[source.Intn(len(known))])
	}
	return strings.Join(list, " ")
}

func TestFindAgreesWithEveryDocument(t *testing.T) {
	source := rand.New(rand.NewSource(4))
	for range 150 {
		l := newLibrary(source)
		for range 40 {
			l.change(t, source)
			query, holds := l.asker(source, 3, 0)
			if len(query) > 100 {
				continue
			}
			var want []int
			for id := range 1000 {
				if _, there := l.docs[id]; there && holds(id) {
					want = append(want, id)
				}
			}
			if got, err, at := l.engine.Find(query); !slices.Equal(got, want) || err != seek.OK || at != 0 {
				t.Fatalf("Find(%q) = %v, %d, %d, want %v of %v", query, got, err, at, want, l.docs)
			}
		}
	}
}

// change puts or takes away a document, in the engine and in the list.
func (l library) change(t *testing.T, source *rand.Rand) {
	t.Helper()
	id := 61 * source.Intn(16)
	_, there := l.docs[id]
	if source.Intn(4) == 0 {
		want := seek.ErrNone
		if there {
			want = seek.OK
		}
		wantDel(t, l.engine, id, want)
		delete(l.docs, id)
		return
	}
	var texts []string
	for range l.fields {
		texts = append(texts, words(source, 6))
	}
	if !there && len(l.docs) == 12 {
		wantPut(t, l.engine, id, texts, seek.ErrFull, 0)
		return
	}
	put(t, l.engine, id, texts...)
	l.docs[id] = texts
}

func TestFindAnswersNewMemory(t *testing.T) {
	e := engineOf(t, "a", "words")
	for id := range 12 {
		put(t, e, id, "x")
	}
	found, _, _ := e.Find("x")
	want := slices.Clone(found)
	clear(found)
	wantFound(t, e, "x", want...)
}

func TestFindsAtTheSameTime(t *testing.T) {
	e := engineOf(t, "a", "words;low", "b", "words;stem")
	for id := range 12 {
		put(t, e, id, fmt.Sprint("x n", id%3), "cats")
	}
	before := runtime.NumGoroutine()
	var all sync.WaitGroup
	for n := range 24 {
		all.Go(func() {
			for range 100 {
				wantFound(t, e, fmt.Sprintf("a:N%d & cat", n%3), n%3, n%3+3, n%3+6, n%3+9)
			}
		})
	}
	all.Wait()
	for range 1000 {
		wantFound(t, e, "!x | n1", 1, 4, 7, 10)
	}
	// A goroutine that has told its end may need a moment to be gone.
	for wait := 0; runtime.NumGoroutine() > before; wait++ {
		if wait == 200 {
			t.Fatalf("%d goroutines, %d before", runtime.NumGoroutine(), before)
		}
		time.Sleep(10 * time.Millisecond)
	}
}

func TestEngineTakesAnyStrings(t *testing.T) {
	source := rand.New(rand.NewSource(5))
	e := engineOf(t, "a", "tags;fold;words;low;stem", "b", "blanks;gram(1,3)")
	signs := strings.Split("( ) & | ! : \" a: b: c:", " ")
	for range 20000 {
		e.Put(source.Intn(1010)-5, []string{madeUp(source, 60), madeUp(source, 30)})
		e.Del(source.Intn(1010) - 5)
		query := madeUp(source, 6) + signs[source.Intn(len(signs))] + madeUp(source, 6)
		ids, err, at := e.Find(query)
		if err != seek.OK && ids != nil || at < 0 || at > len(query) || !slices.IsSorted(ids) {
			t.Fatalf("Find(%q) = %v, %d, %d", query, ids, err, at)
		}
	}
}
