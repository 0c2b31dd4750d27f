package seek_test

import (
	"cmp"
	"fmt"
	"maps"
	"math"
	"math/rand"
	"reflect"
	"slices"
	"strings"
	"sync"
	"testing"

	"seek/seek"
)

// told writes passages: bytes, and in brackets the marks.
func told(list []seek.Passage) string {
	var parts []string
	for _, p := range list {
		var marks []string
		for _, m := range p.Marks {
			marks = append(marks, fmt.Sprintf("%d-%d", m.From, m.To))
		}
		parts = append(parts, fmt.Sprintf("%d-%d(%s)", p.From, p.To, strings.Join(marks, " ")))
	}
	return strings.Join(parts, " ")
}

// marking is a call of Mark, but for the query.
type marking struct {
	id          int
	field       string
	size, count int
}

func wantMarked(t *testing.T, e *seek.Engine, query string, m marking, want string) {
	t.Helper()
	got, err, at := e.Mark(query, m.id, m.field, m.size, m.count)
	if told(got) != want || err != seek.OK || at != 0 {
		t.Errorf("Mark(%q, %v) = %s, %d, %d, want %s", query, m, told(got), err, at, want)
	}
}

func wantNoMark(t *testing.T, e *seek.Engine, query string, m marking, err seek.Errno, at int) {
	t.Helper()
	got, e2, place := e.Mark(query, m.id, m.field, m.size, m.count)
	if got != nil || e2 != err || place != at {
		t.Errorf("Mark(%q, %v) = %s, %d, %d, want none, %d, %d", query, m, told(got), e2, place, err, at)
	}
}

// wantWords marks in a field whose words are each one byte, with one byte
// between them, and wants those words.
func wantWords(t *testing.T, e *seek.Engine, query string, id int, field, want string) {
	t.Helper()
	var parts []string
	got, err, at := e.Mark(query, id, field, 1, 120)
	for _, p := range got {
		parts = append(parts, string(rune('a'+p.From/2)))
	}
	if strings.Join(parts, "") != want || err != seek.OK || at != 0 {
		t.Errorf("Mark(%q): %s, %d, %d, want %s", query, told(got), err, at, want)
	}
}

func TestMarkWantsWhatTheQueryAsks(t *testing.T) {
	e := engineOf(t, "x", "words", "y", "words;low")
	put(t, e, 1, "a b c d e", "a b c d e")
	for _, c := range []struct{ query, x, y string }{
		{"a", "a", "a"},
		{"C|a", "a", "ac"},
		{"x:a", "a", ""},
		{"y:a", "", "a"},
		{"x:a|y:b|c", "ac", "bc"},
		// A row of words wants each of them, wherever it stands, and whether
		// the query holds or not.
		{`"a c"`, "ac", "ac"},
		{`"e a nothing"`, "ae", "ae"},
		{"a&nothing", "a", "a"},
		{"nothing", "", ""},
		{`""`, "", ""},
		{`"- ."|b`, "b", "b"},
		{"a&a|a", "a", "a"},
	} {
		wantWords(t, e, c.query, 1, "x", c.x)
		wantWords(t, e, c.query, 1, "y", c.y)
	}
}

func TestMarkCountsDenials(t *testing.T) {
	e := engineOf(t, "x", "words")
	put(t, e, 1, "a b c d e")
	for _, c := range []struct{ query, want string }{
		{"!a", ""},
		{"!!a", "a"},
		{"!!!a", ""},
		{"!!!!!!a", "a"},
		{"!(a)", ""},
		{"!(!a)", "a"},
		{"!(!(a))|b", "ab"},
		{"(!a)", ""},
		{"(!a)&b", "b"},
		// A ! is over where what it takes is.
		{"!a&b", "b"},
		{"!a|b", "b"},
		{"b&!a", "b"},
		{"!a&!b&c", "c"},
		{"!(a&b)|c", "c"},
		{"!(a|!b)|c", "bc"},
		{"!(a|!(b&!c|d)&e)", "bd"},
		{"!!(a|!b)&c", "ac"},
		{"! ( a | ! x:b ) | ! ! \"c\"", "bc"},
		// One that is not denied is enough.
		{"a&!a", "a"},
		{"!a|a", "a"},
		{`!"a b"&b`, "b"},
	} {
		wantWords(t, e, c.query, 1, "x", c.want)
	}
}

func TestMarkTellsBytesOfTheOriginal(t *testing.T) {
	for _, c := range []struct{ chain, text, query, want string }{
		{"words;low;stem", "Cats, CAT's cat", "cat", "0-4(0-4) 12-15(12-15)"},
		{"tags;words", "x<b>x</b>x", "x", "0-1(0-1) 4-5(4-5) 9-10(9-10)"},
		{"tags;whole", "<b>x</b>", `"<i>x<i>"`, "0-8(0-8)"},
		{"fold;words", "\ufb01 \ufb01n", "fi|fin", "0-3(0-3) 4-8(4-8)"},
		{"fold;words", "\uff21\u00a0A", "\uff21", "0-3(0-3) 5-6(5-6)"},
		{"map(ae=e);words", "haer her", "her", "0-4(0-4) 5-8(5-8)"},
		{"map(ae=e);words", "aer", "er", "0-3(0-3)"},
		{"words;syn(car=auto)", "car auto", "car", "0-3(0-3) 4-8(4-8)"},
		{"words;syn(car=auto)", "car auto", "auto", "0-3(0-3) 4-8(4-8)"},
		{"words;edge(1,2)", "cat cow dog", "cow", "0-3(0-3) 4-7(4-7)"},
		{"words;stop(the)", "the cat", `"the cat"`, "4-7(4-7)"},
		{"words;len(3,3)", "the cats", "the|cats", "0-3(0-3)"},
		{"blanks", "\xff \xe2\x82 \ufffd x\xff", "\xff", "0-1(0-1) 2-4(2-4) 5-8(5-8)"},
		{"blanks", "\xff \xe2\x82 \ufffd x\xff", "x\xe2\x82", "9-11(9-11)"},
		{"words", "caf\u00e9 \xff\xe2\x82x\u0301", "x\u0301|caf\u00e9", "0-5(0-5) 9-12(9-12)"},
		{"words", "", "x", ""},
		{"whole", "\xe4\xb8", "\xe4\xb8", "0-2(0-2)"},
	} {
		e := engineOf(t, "f", c.chain)
		put(t, e, 5, c.text)
		wantMarked(t, e, c.query, marking{5, "f", 1, 120}, c.want)
	}
}

func TestMarksThatTouchAreOne(t *testing.T) {
	signs := engineOf(t, "f", "words")
	put(t, signs, 1, "\u4e2d\u6587\u4e2d x\u4e2dx")
	wantMarked(t, signs, "\u4e2d", marking{1, "f", 120, 9}, "0-14(0-3 6-9 11-14)")
	wantMarked(t, signs, "\u4e2d|\u6587", marking{1, "f", 120, 9}, "0-14(0-9 11-14)")
	wantMarked(t, signs, "\u4e2d|x", marking{1, "f", 5, 9}, "0-3(0-3) 6-9(6-9) 10-15(10-15)")
	// Pieces of a token have all its bytes.
	grams := engineOf(t, "f", "blanks;gram(1,2)")
	put(t, grams, 1, "abcab bca")
	wantMarked(t, grams, "a", marking{1, "f", 9, 9}, "0-9(0-5 6-9)")
	wantMarked(t, grams, "ab", marking{1, "f", 8, 9}, "0-5(0-5) 6-9(6-9)")
	wantMarked(t, grams, "cz", marking{1, "f", 9, 9}, "0-9(0-5 6-9)")
}

func TestPassagesKeepToTheirSize(t *testing.T) {
	e := engineOf(t, "f", "words")
	put(t, e, 1, "xx a xx b xxxx c xx")
	for _, c := range []struct {
		size int
		want string
	}{
		{1, "0-2(0-2) 5-7(5-7) 10-14(10-14) 17-19(17-19)"},
		{6, "0-2(0-2) 5-7(5-7) 10-14(10-14) 17-19(17-19)"},
		{7, "0-7(0-2 5-7) 10-14(10-14) 17-19(17-19)"},
		{8, "0-7(0-2 5-7) 10-14(10-14) 17-19(17-19)"},
		{9, "0-7(0-2 5-7) 10-19(10-14 17-19)"},
		{13, "0-7(0-2 5-7) 10-19(10-14 17-19)"},
		{14, "0-14(0-2 5-7 10-14) 17-19(17-19)"},
		{18, "0-14(0-2 5-7 10-14) 17-19(17-19)"},
		{19, "0-19(0-2 5-7 10-14 17-19)"},
		{120, "0-19(0-2 5-7 10-14 17-19)"},
	} {
		wantMarked(t, e, "xx|xxxx", marking{1, "f", c.size, 120}, c.want)
	}
	whole := engineOf(t, "f", "whole;edge(1,1)")
	put(t, whole, 2, strings.Repeat("x", 120))
	wantMarked(t, whole, "x", marking{2, "f", 120, 1}, "0-120(0-120)")
	wantMarked(t, whole, "x", marking{2, "f", 1, 1}, "0-120(0-120)")
}

func TestPassagesWithTheMostMarksAreTold(t *testing.T) {
	e := engineOf(t, "f", "words")
	put(t, e, 1, "x .... xx x .... x x x .... x x .... x x x .... x")
	query := "x|xx"
	all := "0-1(0-1) 7-11(7-9 10-11) 17-22(17-18 19-20 21-22) 28-31(28-29 30-31) 37-42(37-38 39-40 41-42) 48-49(48-49)"
	parts := strings.SplitAfter(all, ") ")
	tell := func(numbers ...int) string {
		var b strings.Builder
		for _, n := range numbers {
			b.WriteString(parts[n])
		}
		return strings.TrimSuffix(b.String(), " ")
	}
	for _, c := range []struct {
		count int
		want  string
	}{
		{1, tell(2)},
		{2, tell(2, 4)},
		{3, tell(1, 2, 4)},
		{4, tell(1, 2, 3, 4)},
		{5, tell(0, 1, 2, 3, 4)},
		{6, all},
		{7, all},
		{120, all},
	} {
		wantMarked(t, e, query, marking{1, "f", 5, c.count}, c.want)
	}
}

// Among many that are alike none further right goes ahead of one further left.
func TestLikePassagesAreToldFromTheLeft(t *testing.T) {
	e := engineOf(t, "f", "words")
	put(t, e, 1, strings.Repeat("x ", 60))
	for count := 1; count <= 60; count++ {
		got, _, _ := e.Mark("x", 1, "f", 1, count)
		if len(got) != count || got[0].From != 0 || got[count-1].From != 2*(count-1) {
			t.Fatalf("%d of 60: %s", count, told(got))
		}
	}
}

func TestMarkKnowsTheDocumentAsItIs(t *testing.T) {
	e := engineOf(t, "f", "words", "g", "words")
	m := marking{7, "f", 120, 120}
	put(t, e, 7, "a b", "c a")
	put(t, e, 8, "b", "b b")
	wantMarked(t, e, "a", m, "0-1(0-1)")
	put(t, e, 7, "c b a", "")
	wantMarked(t, e, "a", m, "4-5(4-5)")
	wantPut(t, e, 7, []string{"a", strings.Repeat("x", 121)}, seek.ErrLong, 1)
	wantMarked(t, e, "a", m, "4-5(4-5)")
	wantMarked(t, e, "a", marking{7, "g", 120, 120}, "")
	wantMarked(t, e, "a|b", marking{8, "g", 120, 120}, "0-3(0-1 2-3)")
	wantDel(t, e, 7, seek.OK)
	wantNoMark(t, e, "a", m, seek.ErrNone, 0)
	put(t, e, 7, "a", "")
	wantMarked(t, e, "a", m, "0-1(0-1)")
}

func TestMarkRefuses(t *testing.T) {
	e := engineOf(t, "body", "words", "b", "whole;gram(1,9)")
	put(t, e, 7, "a", "a")
	many := strings.Repeat("x", 40)
	bad := marking{9, "no", 0, 0}
	// What is wrong with the query goes ahead of all else.
	wantNoMark(t, e, strings.Repeat("(", 101), bad, seek.ErrLong, 0)
	wantNoMark(t, e, "", bad, seek.ErrText, 0)
	wantNoMark(t, e, "a&&no:b", bad, seek.ErrText, 2)
	wantNoMark(t, e, "no:b|!!!!!!!a", bad, seek.ErrDeep, 11)
	wantNoMark(t, e, "a|no:b&"+many, bad, seek.ErrName, 2)
	wantNoMark(t, e, "a|b:"+many, bad, seek.ErrMany, 4)
	// So it does where the field has nothing to do with it.
	wantNoMark(t, e, "!b:"+many, marking{7, "body", 1, 1}, seek.ErrMany, 3)
	for _, id := range []int{-1, 0, 6, 8, 999, 1000, math.MinInt, math.MaxInt} {
		wantNoMark(t, e, "a", marking{id, "body", 1, 1}, seek.ErrNone, 0)
		wantNoMark(t, e, "a", marking{id, "no", 0, 0}, seek.ErrNone, 0)
	}
	for _, name := range []string{"", "no", "Body", "bod", "bodyb", "body ", "body:", "a", "\xff", strings.Repeat("b", 9999)} {
		wantNoMark(t, e, "a", marking{7, name, 1, 1}, seek.ErrName, 0)
		wantNoMark(t, e, "a", marking{7, name, 0, 121}, seek.ErrName, 0)
	}
	for _, number := range []int{0, -1, 121, math.MinInt, math.MaxInt} {
		wantNoMark(t, e, "a", marking{7, "body", number, 1}, seek.ErrArg, 0)
		wantNoMark(t, e, "a", marking{7, "body", 1, number}, seek.ErrArg, 0)
		wantNoMark(t, e, "nothing", marking{7, "b", number, number}, seek.ErrArg, 0)
	}
	for _, number := range []int{1, 120} {
		wantMarked(t, e, "a", marking{7, "body", number, 121 - number}, "0-1(0-1)")
	}
}

func TestMarkAnswersNewMemory(t *testing.T) {
	e := engineOf(t, "f", "words")
	put(t, e, 1, "x x x .... x x")
	const want = "0-5(0-1 2-3 4-5) 11-14(11-12 13-14)"
	m := marking{1, "f", 5, 9}
	got, _, _ := e.Mark("x", m.id, m.field, m.size, m.count)
	for n := range got {
		// What is appended to one list must not run into another one.
		_ = append(got[n].Marks, seek.Span{From: -1, To: -1}, seek.Span{From: -1, To: -1})
	}
	if told(got) != want {
		t.Errorf("%s, want %s", told(got), want)
	}
	for n := range got {
		clear(got[n].Marks)
	}
	clear(got)
	wantMarked(t, e, "x", m, want)
}

func TestMarksAtTheSameTime(t *testing.T) {
	e := engineOf(t, "f", "words;low", "g", "blanks")
	put(t, e, 1, "Cat dog", "cat")
	image := e.Save()
	// The first calls of a loaded engine may come at the same time, too.
	l := load(t, fieldsOf("f", "words;low", "g", "blanks"), image)
	var all sync.WaitGroup
	for range 16 {
		all.Go(func() {
			for range 100 {
				wantMarked(t, l, "cat|dog", marking{1, "f", 7, 1}, "0-7(0-3 4-7)")
				wantFound(t, l, "g:cat", 1)
				if l.Save() != image {
					t.Errorf("%q, want %q", l.Save(), image)
				}
			}
		})
	}
	all.Wait()
}

// wish is a text of a query, and the field that it asks, or -1.
type wish struct {
	text   string
	field  int
	denied bool
}

// wishing makes a query that nests at most so deep, and lists its texts.
func wishing(source *rand.Rand, fields []seek.Field, depth int, denied bool) (string, []wish) {
	kind := source.Intn(7)
	switch {
	case depth > 0 && kind < 2:
		text, wishes := wishing(source, fields, depth-1, !denied)
		return "!(" + text + ")", wishes
	case depth > 0 && kind == 2:
		text, wishes := wishing(source, fields, 0, !denied)
		return "!" + text, wishes
	case depth > 0 && kind < 6:
		left, a := wishing(source, fields, depth-1, denied)
		right, b := wishing(source, fields, depth-1, denied)
		return left + []string{"|", "&"}[kind%2] + right, append(a, b...)
	}
	w := wish{words(source, 2), source.Intn(len(fields)+1) - 1, denied}
	written := `"` + w.text + `"`
	if w.field >= 0 {
		written = fields[w.field].Name + ":" + written
	}
	return written, []wish{w}
}

// bytesWanted says again which bytes of a field's text are marked.
func (l library) bytesWanted(wishes []wish, field, id int) []bool {
	there, _, _ := seek.Analyse(l.fields[field].Chain, l.docs[id][field])
	marked := make([]bool, len(l.docs[id][field]))
	for _, w := range wishes {
		if w.denied || w.field >= 0 && w.field != field {
			continue
		}
		asked, _, _ := seek.Analyse(l.fields[field].Chain, w.text)
		for _, d := range there {
			if slices.ContainsFunc(asked, func(a seek.Token) bool { return a.Term == d.Term }) {
				for at := d.From; at < d.To; at++ {
					marked[at] = true
				}
			}
		}
	}
	return marked
}

// passagesOf says again which passages are made of these bytes.
func passagesOf(marked []bool, size, count int) []seek.Passage {
	var all []seek.Passage
	for from := 0; from < len(marked); from++ {
		if !marked[from] {
			continue
		}
		to := from
		for to < len(marked) && marked[to] {
			to++
		}
		mark := seek.Span{From: from, To: to}
		if n := len(all); n == 0 || to > all[n-1].From+size {
			all = append(all, seek.Passage{Span: mark})
		}
		last := &all[len(all)-1]
		last.To, last.Marks = to, append(last.Marks, mark)
		from = to
	}
	for len(all) > count {
		// Of those with the fewest marks the one furthest right goes.
		slices.Reverse(all)
		least := slices.MinFunc(all, func(a, b seek.Passage) int { return cmp.Compare(len(a.Marks), len(b.Marks)) })
		all = slices.DeleteFunc(all, func(p seek.Passage) bool { return p.Span == least.Span })
		slices.Reverse(all)
	}
	return all
}

func TestMarkAgreesWithEveryByte(t *testing.T) {
	source := rand.New(rand.NewSource(6))
	marked := 0
	for range 150 {
		l := newLibrary(source)
		for range 60 {
			l.change(t, source)
			query, wishes := wishing(source, l.fields, 3, false)
			if len(query) > 100 {
				continue
			}
			for _, id := range slices.Sorted(maps.Keys(l.docs)) {
				field := source.Intn(len(l.fields))
				size, count := 1+source.Intn(30), 1+source.Intn(4)
				want := passagesOf(l.bytesWanted(wishes, field, id), size, count)
				got, err, at := l.engine.Mark(query, id, l.fields[field].Name, size, count)
				if !reflect.DeepEqual(got, want) || err != seek.OK || at != 0 {
					t.Fatalf("Mark(%q, %d, %d, %d, %d) = %v, %d, %d, want %v of %q",
						query, id, field, size, count, got, err, at, want, l.docs[id])
				}
				marked += len(got)
			}
		}
	}
	if marked < 1000 {
		t.Errorf("only %d passages", marked)
	}
}

// marksRise tells what is wrong with marks and passages of a text, or "".
func marksRise(text string, list []seek.Passage, size int) string {
	chars, _ := seek.Split(text)
	begins, ends, at := map[int]bool{}, map[int]bool{}, -1
	for _, c := range chars {
		begins[c.From], ends[c.To] = true, true
	}
	for _, p := range list {
		if len(p.Marks) == 0 || p.From != p.Marks[0].From || p.To != p.Marks[len(p.Marks)-1].To {
			return "a passage does not begin or end with its marks"
		}
		if p.To-p.From > size && len(p.Marks) > 1 {
			return "a passage is too long"
		}
		for _, m := range p.Marks {
			if m.From <= at || m.To <= m.From {
				return "marks do not rise, or touch"
			}
			if !begins[m.From] || !ends[m.To] {
				return "a mark cuts a character"
			}
			at = m.To
		}
	}
	return ""
}

func TestMarksRise(t *testing.T) {
	source := rand.New(rand.NewSource(7))
	marked := 0
	for range 4000 {
		chain := chains[source.Intn(len(chains))]
		e := engineOf(t, "f", chain)
		text := madeUp(source, 40)
		if err, _ := e.Put(3, []string{text}); err != seek.OK {
			continue
		}
		for range 4 {
			query := `"` + madeUp(source, 8) + `"`
			size := 1 + source.Intn(120)
			got, _, _ := e.Mark(query, 3, "f", size, 1+source.Intn(20))
			if fault := marksRise(text, got, size); fault != "" {
				t.Fatalf("%q, %q: Mark(%q, %d) = %s: %s", chain, text, query, size, told(got), fault)
			}
			marked += len(got)
		}
	}
	if marked < 1000 {
		t.Errorf("only %d passages", marked)
	}
}

func TestWhatIsFoundHasAMark(t *testing.T) {
	source := rand.New(rand.NewSource(8))
	found := 0
	for range 100 {
		l := newLibrary(source)
		for range 40 {
			l.change(t, source)
			query, _ := l.asker(source, 2, 0)
			if strings.Contains(query, "!") {
				continue
			}
			ids, _, _ := l.engine.Find(query)
			for _, id := range ids {
				marks := 0
				for _, f := range l.fields {
					got, _, _ := l.engine.Mark(query, id, f.Name, 120, 120)
					marks += len(got)
				}
				if marks == 0 {
					t.Fatalf("Find(%q) tells %d, %q, but it has no mark", query, id, l.docs[id])
				}
				found++
			}
		}
	}
	if found < 1000 {
		t.Errorf("only %d found", found)
	}
}
