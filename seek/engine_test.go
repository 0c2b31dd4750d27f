package seek_test

import (
	"math"
	"slices"
	"strings"
	"testing"
	"unsafe"

	"seek/seek"
)

// fieldsOf makes fields of names and chains by turns.
func fieldsOf(list ...string) []seek.Field {
	var fields []seek.Field
	for n := 0; n < len(list); n += 2 {
		fields = append(fields, seek.Field{Name: list[n], Chain: list[n+1]})
	}
	return fields
}

func engineOf(t *testing.T, list ...string) *seek.Engine {
	t.Helper()
	e, err, at := seek.New(fieldsOf(list...))
	if e == nil || err != seek.OK || at != 0 {
		t.Fatalf("New(%q) = %v, %d, %d", list, e, err, at)
	}
	return e
}

func wantPut(t *testing.T, e *seek.Engine, id int, texts []string, err seek.Errno, at int) {
	t.Helper()
	if got, place := e.Put(id, texts); got != err || place != at {
		t.Errorf("Put(%d, %q) = %d, %d, want %d, %d", id, texts, got, place, err, at)
	}
}

func put(t *testing.T, e *seek.Engine, id int, texts ...string) {
	t.Helper()
	wantPut(t, e, id, texts, seek.OK, 0)
}

func wantDel(t *testing.T, e *seek.Engine, id int, err seek.Errno) {
	t.Helper()
	if got := e.Del(id); got != err {
		t.Errorf("Del(%d) = %d, want %d", id, got, err)
	}
}

func wantFound(t *testing.T, e *seek.Engine, query string, ids ...int) {
	t.Helper()
	if got, err, at := e.Find(query); !slices.Equal(got, ids) || err != seek.OK || at != 0 {
		t.Errorf("Find(%q) = %v, %d, %d, want %v", query, got, err, at, ids)
	}
}

func wantNoFind(t *testing.T, e *seek.Engine, query string, err seek.Errno, at int) {
	t.Helper()
	if got, e, place := e.Find(query); got != nil || e != err || place != at {
		t.Errorf("Find(%q) = %v, %d, %d, want none, %d, %d", query, got, e, place, err, at)
	}
}

// everything is a query that holds for every document.
const everything = `!""`

func TestNewTakesFields(t *testing.T) {
	for _, list := range [][]string{
		{"a", "words"},
		{"abcdefgh", "words"},
		{"z", "whole", "az", "whole", "za", "whole"},
		{"a", "tags;tags;tags;tags;tags;tags;tags;words", "b", "blanks;low"},
	} {
		wantFound(t, engineOf(t, list...), everything)
	}
}

func TestNewRefusesFields(t *testing.T) {
	long := strings.Repeat("x", 81)
	many := "words" + strings.Repeat(";low", 8)
	for _, c := range []struct {
		fields []seek.Field
		err    seek.Errno
		at     int
	}{
		{nil, seek.ErrArg, 0},
		{[]seek.Field{}, seek.ErrArg, 0},
		{fieldsOf("a", "words", "b", "words", "c", "words", "d", "words"), seek.ErrArg, 0},
		{fieldsOf("A", "x", "", "x", "", "x", "", "x"), seek.ErrArg, 0},
		{make([]seek.Field, 100), seek.ErrArg, 0},
		{make([]seek.Field, 1), seek.ErrName, 0},
		{fieldsOf("", "words"), seek.ErrName, 0},
		{fieldsOf("abcdefghi", "words"), seek.ErrName, 0},
		{fieldsOf("A", "words"), seek.ErrName, 0},
		{fieldsOf("a1", "words"), seek.ErrName, 0},
		{fieldsOf("a b", "words"), seek.ErrName, 0},
		{fieldsOf("a`", "words"), seek.ErrName, 0},
		{fieldsOf("{a", "words"), seek.ErrName, 0},
		{fieldsOf("\u00e4", "words"), seek.ErrName, 0},
		{fieldsOf("a\xff", "words"), seek.ErrName, 0},
		{fieldsOf("a", "words", "a", "words"), seek.ErrName, 1},
		{fieldsOf("a", "words", "b", "words", "a", "words"), seek.ErrName, 2},
		{fieldsOf("a", "words", "b", "words", "b", "words"), seek.ErrName, 2},
		{fieldsOf("a", long), seek.ErrLong, 0},
		{fieldsOf("a", "words;"), seek.ErrText, 0},
		{fieldsOf("a", many), seek.ErrMany, 0},
		{fieldsOf("a", "words", "b", long), seek.ErrLong, 1},
		{fieldsOf("a", "words", "b", "words", "c", ""), seek.ErrText, 2},
		{fieldsOf("a", "words", "b", many, "c", "words"), seek.ErrMany, 1},
		// The first field is told, and of it the name ahead of the chain.
		{fieldsOf("a", many, "B", "x"), seek.ErrMany, 0},
		{fieldsOf("a", "words", "B", "x", "", long), seek.ErrName, 1},
		{fieldsOf("a", "words", "b", "x", "a", "words"), seek.ErrText, 1},
	} {
		if e, err, at := seek.New(c.fields); e != nil || err != c.err || at != c.at {
			t.Errorf("New(%q) = %v, %d, %d, want none, %d, %d", c.fields, e, err, at, c.err, c.at)
		}
	}
}

func TestPutRefusesIdsAndCounts(t *testing.T) {
	e := engineOf(t, "a", "words", "b", "words")
	two := []string{"x", "x"}
	for _, id := range []int{-1, 1000, math.MinInt, math.MaxInt} {
		wantPut(t, e, id, two, seek.ErrArg, 0)
	}
	long := strings.Repeat("x", 121)
	for _, texts := range [][]string{nil, {}, {"x"}, {"x", "x", "x"}, {long}, make([]string, 100)} {
		wantPut(t, e, 0, texts, seek.ErrArg, 0)
	}
	wantPut(t, e, -1, []string{"x", long}, seek.ErrArg, 0)
	wantFound(t, e, everything)
	put(t, e, 999, two...)
	put(t, e, 0, two...)
	wantFound(t, e, "x", 0, 999)
}

func TestPutRefusesTexts(t *testing.T) {
	e := engineOf(t, "a", "words", "b", "whole;gram(1,9)", "c", "words;gram(1,9)")
	long := strings.Repeat("x", 121)
	many := strings.Repeat("x", 40)
	for _, c := range []struct {
		texts []string
		err   seek.Errno
		at    int
	}{
		{[]string{long, "", ""}, seek.ErrLong, 0},
		{[]string{"", long, ""}, seek.ErrLong, 1},
		{[]string{"", "", long}, seek.ErrLong, 2},
		{[]string{many, many, ""}, seek.ErrMany, 1},
		{[]string{"", "", many}, seek.ErrMany, 2},
		// The first text is told, whatever is wrong with it.
		{[]string{"", many, long}, seek.ErrMany, 1},
		{[]string{"", long, many}, seek.ErrLong, 1},
		{[]string{strings.Repeat("\u4e2d", 41), "", ""}, seek.ErrLong, 0},
	} {
		wantPut(t, e, 5, c.texts, c.err, c.at)
	}
	wantFound(t, e, everything)
	put(t, e, 5, strings.Repeat("x", 120), strings.Repeat("x", 37), "")
	wantFound(t, e, everything, 5)
}

func TestPutKeepsToItsBound(t *testing.T) {
	e := engineOf(t, "a", "words")
	var all []int
	for n := range 12 {
		put(t, e, 80*n, "x")
		all = append(all, 80*n)
	}
	wantPut(t, e, 1, []string{"y"}, seek.ErrFull, 0)
	wantPut(t, e, 1, []string{strings.Repeat("y", 121)}, seek.ErrLong, 0)
	wantPut(t, e, 1000, []string{"y"}, seek.ErrArg, 0)
	wantFound(t, e, "x", all...)
	// One that is there may be exchanged.
	put(t, e, 80, "y")
	wantFound(t, e, "y", 80)
	wantDel(t, e, 0, seek.OK)
	put(t, e, 1, "y")
	wantFound(t, e, "y", 1, 80)
	wantPut(t, e, 0, []string{"y"}, seek.ErrFull, 0)
	wantFound(t, e, everything, append([]int{1}, all[1:]...)...)
}

func TestPutExchangesADocument(t *testing.T) {
	e := engineOf(t, "a", "words", "b", "words")
	put(t, e, 7, "x y", "z")
	put(t, e, 8, "x", "")
	put(t, e, 7, "y", "w y")
	wantFound(t, e, "x", 8)
	wantFound(t, e, "z")
	wantFound(t, e, "w", 7)
	wantFound(t, e, "a:y", 7)
	// Nothing is left of where its terms once stood.
	wantFound(t, e, `"x y"`)
	put(t, e, 7, "", "")
	wantFound(t, e, "y | w")
	wantFound(t, e, everything, 7, 8)
}

func TestErrorsLeaveADocumentAsItIs(t *testing.T) {
	e := engineOf(t, "a", "words", "b", "whole;gram(1,9)")
	put(t, e, 7, "x", "y")
	wantPut(t, e, 7, []string{"new", strings.Repeat("y", 121)}, seek.ErrLong, 1)
	wantPut(t, e, 7, []string{"new", strings.Repeat("y", 40)}, seek.ErrMany, 1)
	wantPut(t, e, 7, []string{"new"}, seek.ErrArg, 0)
	wantDel(t, e, 8, seek.ErrNone)
	wantFound(t, e, "a:new")
	wantFound(t, e, "a:x & b:y", 7)
}

func TestDel(t *testing.T) {
	e := engineOf(t, "a", "words", "b", "words")
	put(t, e, 0, "x", "y")
	put(t, e, 999, "x", "z")
	for _, id := range []int{1, 998, -1, 1000, math.MinInt, math.MaxInt} {
		wantDel(t, e, id, seek.ErrNone)
	}
	wantFound(t, e, "x", 0, 999)
	wantDel(t, e, 0, seek.OK)
	wantDel(t, e, 0, seek.ErrNone)
	wantFound(t, e, "x", 999)
	wantFound(t, e, "y")
	wantFound(t, e, everything, 999)
	wantDel(t, e, 999, seek.OK)
	wantFound(t, e, everything)
	put(t, e, 0, "", "x")
	wantFound(t, e, "x", 0)
	wantFound(t, e, "a:x")
}

func TestEnginesShareNothing(t *testing.T) {
	fields := fieldsOf("a", "words")
	first, _, _ := seek.New(fields)
	second, _, _ := seek.New(fields)
	put(t, first, 1, "x")
	put(t, second, 2, "x y")
	wantFound(t, first, "x", 1)
	wantFound(t, second, "x", 2)
	wantDel(t, first, 2, seek.ErrNone)
	wantDel(t, second, 2, seek.OK)
	wantFound(t, first, "x", 1)
}

// written is a string that changes when its bytes do.
func written(bytes []byte) string { return unsafe.String(&bytes[0], len(bytes)) }

func TestCallsKeepNothingTheyAreHanded(t *testing.T) {
	name, chain := []byte("body"), []byte("map(a=b);words;stop(the);syn(b=c)")
	text := []byte("a the dog")
	fields := []seek.Field{{Name: written(name), Chain: written(chain)}}
	texts := []string{written(text)}
	e, _, _ := seek.New(fields)
	put(t, e, 3, texts...)
	if fields[0].Name != "body" || texts[0] != "a the dog" {
		t.Errorf("what was handed in has changed: %q, %q", fields, texts)
	}
	for _, bytes := range [][]byte{name, chain, text} {
		for n := range bytes {
			bytes[n] = 'q'
		}
	}
	fields[0], texts[0] = seek.Field{}, "other"
	wantFound(t, e, "body:a", 3)
	wantFound(t, e, `"c the dog"`, 3)
	wantFound(t, e, "the")
	wantFound(t, e, "other")
	put(t, e, 4, "b the")
	wantFound(t, e, "b", 3, 4)
}
