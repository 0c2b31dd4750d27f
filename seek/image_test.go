package seek_test

import (
	"fmt"
	"math/rand"
	"slices"
	"strings"
	"testing"

	"seek/seek"
)

func load(t *testing.T, fields []seek.Field, image string) *seek.Engine {
	t.Helper()
	e, err, at := seek.Load(fields, image)
	if e == nil || err != seek.OK || at != 0 {
		t.Fatalf("Load(%q) = %v, %d, %d", image, e, err, at)
	}
	if e.Save() != image {
		t.Errorf("Load(%q) saves %q", image, e.Save())
	}
	return e
}

func wantNoLoad(t *testing.T, fields []seek.Field, image string, err seek.Errno, at int) {
	t.Helper()
	if e, got, place := seek.Load(fields, image); e != nil || got != err || place != at {
		t.Errorf("Load(%q, %.200q) = %v, %d, %d, want none, %d, %d", fields, image, e, got, place, err, at)
	}
}

func TestSaveWritesFieldsAndDocuments(t *testing.T) {
	e := engineOf(t, "body", "tags;words;stop(the,a)", "t", "whole")
	const head = "body:tags;words;stop(the,a)\nt:whole\n"
	if got := e.Save(); got != head {
		t.Errorf("%q", got)
	}
	put(t, e, 10, "a \"b\"\n", "\xff\u00e9\x00")
	put(t, e, 9, "", `\`)
	const want = head + `9 "" "\\"` + "\n" + `10 "a \"b\"\n" "\xff\u00e9\x00"` + "\n"
	if got := e.Save(); got != want {
		t.Errorf("%q, want %q", got, want)
	}
}

func TestSaveForgetsHowDocumentsCame(t *testing.T) {
	source := rand.New(rand.NewSource(9))
	for range 200 {
		first := engineOf(t, "a", "words", "b", "blanks;gram(1,2)")
		docs := map[int][]string{}
		for id := range 12 {
			docs[83*id] = []string{madeUp(source, 8), madeUp(source, 4)}
			put(t, first, 83*id, docs[83*id]...)
		}
		second := engineOf(t, "a", "words", "b", "blanks;gram(1,2)")
		for range 12 {
			id := source.Intn(1000)
			put(t, second, id, "gone", "too")
			second.Find("gone")
			second.Put(id, []string{"x"})
			second.Save()
			wantDel(t, second, id, seek.OK)
		}
		// Going through a map is one order more.
		for id, texts := range docs {
			put(t, second, id, texts[1], "other")
			put(t, second, id, texts...)
		}
		if first.Save() != second.Save() || first.Save() != first.Save() {
			t.Fatalf("%q and %q", first.Save(), second.Save())
		}
		wantDel(t, first, 83, seek.OK)
		if first.Save() == second.Save() {
			t.Fatalf("%q, of 11 and of 12 documents", first.Save())
		}
	}
}

// document is one of an engine with two fields.
type document struct {
	id            int
	first, second string
}

func TestSaveTellsDocumentsApart(t *testing.T) {
	seen := map[string]int{}
	for n, list := range [][]document{
		nil,
		{{1, "", ""}},
		{{2, "", ""}},
		{{1, "", ""}, {2, "", ""}},
		{{12, "", ""}},
		{{0, "", ""}},
		{{1, "a", ""}},
		{{1, "", "a"}},
		{{1, "a", "b"}},
		{{1, "ab", ""}},
		{{1, "b", "a"}},
		{{1, "a ", "b"}},
		{{1, "a", " b"}},
		{{1, "a\" \"b", ""}},
		{{1, "", "a\" \"b"}},
		{{1, "a\"\n2 \"b", ""}},
		{{1, "a", ""}, {2, "b", ""}},
		{{1, "b", ""}, {2, "a", ""}},
		{{1, "a", "\"\n2 \"b\" \""}},
		{{1, "\xff", ""}},
		{{1, "\ufffd", ""}},
		{{1, `\xff`, ""}},
		{{1, `\ufffd`, ""}},
		{{1, "\xc3\xbf", ""}},
		{{1, "\n", ""}},
		{{1, `\n`, ""}},
		{{1, "\r\n", ""}},
		{{1, `"`, ""}},
		{{1, `\`, ""}},
		{{1, `\\`, ""}},
		{{1, `\"`, ""}},
		{{1, "A", ""}},
		{{1, "\x00", ""}},
		{{1, "\x00\x00", ""}},
	} {
		e := engineOf(t, "a", "words;low", "b", "words;low")
		for _, d := range list {
			put(t, e, d.id, d.first, d.second)
		}
		image := e.Save()
		if before, ok := seen[image]; ok {
			t.Errorf("%d and %d are the same: %q", before, n, image)
		}
		seen[image] = n
		load(t, fieldsOf("a", "words;low", "b", "words;low"), image)
	}
}

func TestLoadedEnginesAnswerAlike(t *testing.T) {
	fields := fieldsOf("body", "tags;words;low;stop(the,a);stem", "title", "whole;gram(2,2)")
	e := engineOf(t, "body", fields[0].Chain, "title", fields[1].Chain)
	put(t, e, 0, "The cats <b>ran</b>", "abc")
	put(t, e, 999, "\xff\xe2\x82 dog's cat", "\u4e2d\xff")
	put(t, e, 500, "", "")
	l := load(t, fields, e.Save())
	for _, e := range []*seek.Engine{e, l} {
		wantFound(t, e, everything, 0, 500, 999)
		wantFound(t, e, "cat", 0, 999)
		wantFound(t, e, `"the cat run"|title:bc`, 0)
		wantMarked(t, e, "cat", marking{999, "body", 9, 9}, "10-13(10-13)")
		wantMarked(t, e, "title:\u4e2d\xff", marking{999, "title", 9, 9}, "0-4(0-4)")
	}
	// They share nothing from here on.
	wantDel(t, l, 0, seek.OK)
	put(t, l, 1, "cat", "")
	wantFound(t, e, "cat", 0, 999)
	wantFound(t, l, "cat", 1, 999)
	put(t, e, 0, "dog", "")
	wantFound(t, l, "dog")
	wantPut(t, l, 2, []string{"one"}, seek.ErrArg, 0)
	load(t, fields, l.Save())
}

func TestLoadTakesTheGreatest(t *testing.T) {
	fields := fieldsOf("aaaaaaaa", "words"+strings.Repeat(";low", 7), "bbbbbbbb", "whole",
		"cccccccc", "words;syn("+strings.Repeat("abcdefgh=ab,", 5)+"abcd=abcd)")
	if len(fields[2].Chain) != 80 {
		t.Fatalf("the chain has %d bytes", len(fields[2].Chain))
	}
	e, err, _ := seek.New(fields)
	if err != seek.OK {
		t.Fatal(err)
	}
	for id := range 12 {
		put(t, e, 999-id, strings.Repeat("\xff", 120), strings.Repeat("\x00", 120), strings.Repeat("\u4e2d", 40))
	}
	l := load(t, fields, e.Save())
	wantPut(t, l, 5, []string{"", "", ""}, seek.ErrFull, 0)
	wantFound(t, l, "\u4e2d", 988, 989, 990, 991, 992, 993, 994, 995, 996, 997, 998, 999)
}

func TestLoadTellsTheErrorsOfNew(t *testing.T) {
	good := fieldsOf("a", "words")
	e := engineOf(t, "a", "words")
	put(t, e, 1, "x")
	for _, image := range []string{"", "x", e.Save(), strings.Repeat("\xff", 1000)} {
		wantNoLoad(t, nil, image, seek.ErrArg, 0)
		wantNoLoad(t, make([]seek.Field, 4), image, seek.ErrArg, 0)
		wantNoLoad(t, append(slices.Clone(good), good...), image, seek.ErrName, 1)
		wantNoLoad(t, fieldsOf("a", "words", "b", "x"), image, seek.ErrText, 1)
		wantNoLoad(t, fieldsOf("a", "words", "b", "words", "c", strings.Repeat("x", 81)), image, seek.ErrLong, 2)
		wantNoLoad(t, fieldsOf("a", "words"+strings.Repeat(";low", 8)), image, seek.ErrMany, 0)
	}
	load(t, good, e.Save())
}

func TestLoadRefusesWhatIsNotSaved(t *testing.T) {
	fields := fieldsOf("a", "words", "b", "whole;gram(1,9)")
	const head = "a:words\nb:whole;gram(1,9)\n"
	long := strings.Repeat("x", 120)
	many := strings.Repeat("x", 38)
	load(t, fields, head)
	load(t, fields, head+`1 "a" "b"`+"\n")
	load(t, fields, head+`0 "`+long+`" "`+many[1:]+`"`+"\n")
	load(t, fields, head+`9 "" "\""`+"\n"+`10 "\xff\n" ""`+"\n")
	for _, image := range []string{
		"", "\n", "a:words\n", "a:words\nb:whole;gram(1,9)", head[1:], " " + head, head + "\n", head + head,
		"b:whole;gram(1,9)\na:words\n",
		// Documents that no engine with these fields has.
		head + `1 "a"` + "\n",
		head + `1 "a" "b" "c"` + "\n",
		head + "1\n",
		head + "1 \n",
		head + `-1 "" ""` + "\n",
		head + `1000 "" ""` + "\n",
		head + `99999999999999999999 "" ""` + "\n",
		head + `1 "` + long + `x" ""` + "\n",
		head + `1 "" "` + many + `"` + "\n",
		head + `1 "" ""` + "\n" + `1 "" ""` + "\n",
		head + `1 "" ""` + "\n" + `1 "a" ""` + "\n",
		head + strings.Repeat(`1 "" ""`+"\n", 5),
		// Documents that are written in another way.
		head + `2 "" ""` + "\n" + `1 "" ""` + "\n",
		head + `1 "a" "b"`,
		head + `1 "a" "b" `,
		head + `1 "a" "b" ` + "\n",
		head + `1 "a"  "b"` + "\n",
		head + `1  "a" "b"` + "\n",
		head + `1 "a""b"` + "\n",
		head + ` 1 "a" "b"` + "\n",
		head + `01 "a" "b"` + "\n",
		head + `+1 "a" "b"` + "\n",
		head + `0x1 "a" "b"` + "\n",
		head + `1_0 "a" "b"` + "\n",
		head + `-0 "a" "b"` + "\n",
		head + `1 "a" "b"` + "\r\n",
		head + `1 "a" "b"` + "\n\n",
		head + "\n" + `1 "a" "b"` + "\n",
		head + `1 "\x61" "b"` + "\n",
		head + `1 "\u0061" "b"` + "\n",
		head + `1 "\141" "b"` + "\n",
		head + `1 'a' "b"` + "\n",
		head + "1 `a` \"b\"\n",
		head + `1 a b` + "\n",
		head + `1 "a" "b` + "\n",
		head + `1 "a "b"` + "\n",
		head + `1 "a" "\q"` + "\n",
		head + `1 "a" "\xF"` + "\n",
		head + `1 "a" "\xFF"` + "\n",
		head + `1 "a" "` + "\xff" + `"` + "\n",
		head + `1 "a" "` + "\u00e9" + `"` + "\n",
		head + "1 \"a\" \"\x00\"\n",
		head + `1 "a" "b"x` + "\n",
		head + `x "a" "b"` + "\n",
		head + ` "a" "b"` + "\n",
	} {
		wantNoLoad(t, fields, image, seek.ErrImage, 0)
	}
}

func TestLoadRefusesTooManyDocuments(t *testing.T) {
	fields := fieldsOf("a", "words")
	image := "a:words\n"
	for id := range 13 {
		load(t, fields, image)
		image += fmt.Sprintf("%d \"x\"\n", id)
	}
	wantNoLoad(t, fields, image, seek.ErrImage, 0)
}

func TestLoadRefusesImagesOfOtherFields(t *testing.T) {
	e := engineOf(t, "a", "words", "b", "words")
	for range 2 {
		image := e.Save()
		load(t, fieldsOf("a", "words", "b", "words"), image)
		for _, fields := range [][]seek.Field{
			fieldsOf("b", "words", "a", "words"),
			fieldsOf("a", "words", "b", "words;low"),
			fieldsOf("a", "blanks", "b", "words"),
			fieldsOf("a", "words", "c", "words"),
			fieldsOf("a", "words"),
			fieldsOf("a", "words", "b", "words", "c", "words"),
		} {
			wantNoLoad(t, fields, image, seek.ErrImage, 0)
		}
		put(t, e, 1, "", "")
	}
}

func TestLoadTakesAnyStrings(t *testing.T) {
	source := rand.New(rand.NewSource(10))
	fields := fieldsOf("a", "words", "b", "blanks;gram(1,3)")
	e := engineOf(t, "a", fields[0].Chain, "b", fields[1].Chain)
	loaded := 0
	for range 20000 {
		e.Put(source.Intn(20), []string{madeUp(source, 6), madeUp(source, 4)})
		e.Del(source.Intn(20))
		e.Del(source.Intn(20))
		image := []byte(e.Save())
		for range source.Intn(3) {
			at := source.Intn(len(image))
			switch source.Intn(4) {
			case 0:
				image[at] = byte(source.Intn(256))
			case 1:
				image = slices.Delete(image, at, at+1)
			case 2:
				image = slices.Insert(image, at, `0123456789" \nxuf`[source.Intn(17)])
			default:
				image = append(image[:at], madeUp(source, 4)...)
			}
			if len(image) == 0 {
				break
			}
		}
		l, err, at := seek.Load(fields, string(image))
		if at != 0 || (err == seek.OK) != (l != nil) || err != seek.OK && err != seek.ErrImage {
			t.Fatalf("Load(%q) = %v, %d, %d", image, l, err, at)
		}
		if err == seek.ErrImage && string(image) == e.Save() {
			t.Fatalf("Load(%q) = %d", image, err)
		}
		if err != seek.OK {
			continue
		}
		loaded++
		if l.Save() != string(image) {
			t.Fatalf("Load(%q) saves %q", image, l.Save())
		}
	}
	if loaded < 1000 {
		t.Errorf("only %d images", loaded)
	}
}

// However long an image is, what is no image is soon told.
func TestLoadEndsWithLongImages(t *testing.T) {
	fields := fieldsOf("a", "words;gram(1,3)")
	const head = "a:words;gram(1,3)\n"
	for _, part := range []string{
		"\xff", "0", "1 \"\"\n", "1 \"abcdefghijklmnopqrstuvwxyz\"\n", "\n", " ", "\"", "\" ", "\"\"", "\"\" ", "\\", "`", "'x'", head,
	} {
		long := strings.Repeat(part, 2000000/len(part))
		for _, begin := range []string{"", head, head + "7 ", head + "7 \""} {
			wantNoLoad(t, fields, begin+long, seek.ErrImage, 0)
			wantNoLoad(t, fields, begin+long+"\"\n", seek.ErrImage, 0)
		}
	}
}

func TestImagesKeepNothingTheyAreHanded(t *testing.T) {
	name, chain, text := []byte("body"), []byte("map(a=b);words;low"), []byte("cat the dog")
	fields := []seek.Field{{Name: written(name), Chain: written(chain)}}
	e, _, _ := seek.New(fields)
	put(t, e, 3, written(text))
	image := []byte(e.Save())
	saved := string(image)
	l, _, _ := seek.Load(fields, written(image))
	for _, bytes := range [][]byte{name, chain, text, image} {
		for n := range bytes {
			bytes[n] = 'q'
		}
	}
	fields[0] = seek.Field{}
	for _, e := range []*seek.Engine{e, l} {
		if e.Save() != saved || !strings.Contains(saved, "cat the dog") {
			t.Errorf("%q, want %q", e.Save(), saved)
		}
		wantFound(t, e, "dog", 3)
		wantMarked(t, e, "body:dog", marking{3, "body", 9, 9}, "8-11(8-11)")
	}
}
