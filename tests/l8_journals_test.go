package tests

import (
	"math"
	"slices"
	"strings"
	"testing"

	"loop.example/circuitswitching/impl"
)

// noTextDeeds visits deeds that have no text: of other kinds, lines or numbers, and ExDrop with a number.
func noTextDeeds(visit func(d impl.ExDeed)) {
	lines := []int{math.MinInt, -100, -10, -1, 100, 101, 110, 256, 1000, 1 << 32, math.MaxInt}
	numbers := []string{"", "0000", "3333", "4", "04", "40", "1a", "a", " ", "0 ", " 0", "1 2", "1\n", "\n", "\x00", "\xff", "\u0661", "-1", "+1", strings.Repeat("1", 1000)}
	for kind := -1; kind <= 3; kind++ {
		for _, line := range lines {
			for _, number := range []string{"", "0", "12", "333"} {
				visit(impl.ExDeed{Kind: kind, Line: line, Number: number})
			}
		}
		for _, number := range numbers {
			for _, line := range []int{0, 1, 9, 10, 99} {
				if kind != dropKind || number != "" {
					visit(impl.ExDeed{Kind: kind, Line: line, Number: number})
				}
			}
		}
	}
	for _, kind := range []int{math.MinInt, -2, -1, 3, 4, 99, 256, 257, 1 << 32, 1<<32 + 1, math.MaxInt} {
		for _, line := range []int{0, 1, 99} {
			for _, number := range []string{"", "0", "321"} {
				visit(impl.ExDeed{Kind: kind, Line: line, Number: number})
			}
		}
	}
	for _, number := range append(allNumbers(), noDigits()...) {
		visit(impl.ExDeed{Kind: dropKind, Line: 5, Number: number})
	}
	for _, number := range noDigits() {
		for _, text := range []string{number, "1" + number, number + "1", "1" + number + "1"} {
			visit(impl.ExDeed{Kind: callKind, Line: 5, Number: text})
			visit(impl.ExDeed{Kind: numberKind, Line: 5, Number: text})
		}
	}
}

// Promise 81, DeedText: ReadDeed of the text is the deed.
func TestTextsOfDeedsAreRead(t *testing.T) {
	for text, d := range deedsByText() {
		if impl.DeedText(d) != text {
			t.Fatal(d, text, impl.DeedText(d))
		}
		if read, ok := impl.ReadDeed(impl.DeedText(d)); !ok || read != d {
			t.Fatal(d, read, ok)
		}
	}
	for _, c := range []struct {
		d    impl.ExDeed
		text string
	}{
		{impl.ExDeed{Kind: callKind, Line: 3, Number: "10"}, "call 3 10"},
		{impl.ExDeed{Kind: callKind, Line: 0, Number: "000"}, "call 0 000"},
		{impl.ExDeed{Kind: dropKind, Line: 99}, "drop 99"},
		{impl.ExDeed{Kind: dropKind, Line: 0}, "drop 0"},
		{impl.ExDeed{Kind: numberKind, Line: 10, Number: "3"}, "number 10 3"},
	} {
		if impl.DeedText(c.d) != c.text {
			t.Fatal(c, impl.DeedText(c.d))
		}
	}
}

func TestDeedsWithoutText(t *testing.T) {
	noTextDeeds(func(d impl.ExDeed) {
		if textOfDeed(d) != "" {
			t.Fatal("has a text", d)
		}
		if text := impl.DeedText(d); text != "" {
			t.Fatal(d, text)
		}
	})
}

// readRight fails the test if ReadDeed does not tell whose text a text is.
func readRight(t *testing.T, text string) {
	t.Helper()
	want, wantOk := deedsByText()[text]
	d, ok := impl.ReadDeed(text)
	if d != want || ok != wantOk {
		t.Fatalf("%q: %v, %v, not %v, %v", text, d, ok, want, wantOk)
	}
	if ok && impl.DeedText(d) != text {
		t.Fatalf("%q: its deed has the text %q", text, impl.DeedText(d))
	}
}

// Promise 82, ReadDeed: DeedText of the deed is the text; with a space behind it a text is refused.
func TestReadTextsAreCanonical(t *testing.T) {
	for text := range deedsByText() {
		readRight(t, text)
		if d, ok := impl.ReadDeed(text + " "); ok || d != (impl.ExDeed{}) {
			t.Fatalf("with a space behind it %q: %v", text, d)
		}
		for _, more := range []string{"  ", "\n", "\x00", " 0", "0"} {
			readRight(t, text+more)
			readRight(t, more+text)
		}
	}
	textsNear(someDeedTexts(), func(text string) { readRight(t, text) })
}

func TestReadDeedRefuses(t *testing.T) {
	for _, text := range []string{
		"", " ", "  ", "\n", "call", "drop", "number", "call ", "drop ", "number ", "call 1", "call 1 ", "number 3", "number 3 ",
		"drop 3 0", "drop 3 ", "drop  3", " drop 3", "drop 3\n", "drop\t3", "drop 03", "drop 00", "drop +3", "drop -0", "drop -3", "drop 3.", "drop 0x3", "drop 1_0", "drop 100", "drop 999", "drop 0100",
		"drop 18446744073709551616", "drop 18446744073709551619", "drop 4294967296", "drop x", "drop \u0663",
		"call 1 4", "call 1 0000", "call 1 1 1", "call 1  1", "call  1 1", "call 01 1", "call 100 1", "call 1 1 ", "call x 1", "call 1 x", "call -1 1", "call 1 -1", "call 1 \u0661", "call 1 1\n", "call 1 1\r",
		"number 1 4", "number 1 3333", "number 001 1", "number 1 1\x00", "Call 1 1", "CALL 1 1", "dropp 1", "dro 1", "rop 1", "calls 1 1", "numbers 1 1", "num 1 1", "night", "who 1", "0 1 1", "1 1",
	} {
		if d, ok := impl.ReadDeed(text); ok || d != (impl.ExDeed{}) {
			t.Fatalf("%q: %v, %v", text, d, ok)
		}
	}
}

// textDeeds returns so many deeds that have a text.
func textDeeds(row *numbers, many int) []impl.ExDeed {
	list := []impl.ExDeed{}
	for range many {
		d := impl.ExDeed{Kind: row.below(3), Line: row.below(lastTextLine + 1)}
		if d.Kind != dropKind {
			d.Number = allNumbers()[row.below(84)]
		}
		list = append(list, d)
	}
	return list
}

// Promise 83, JournalText: ReadJournal of the text are the deeds, and the whole text.
func TestJournalsAreRead(t *testing.T) {
	row := &numbers{state: 109}
	for many := range 60 {
		list := textDeeds(row, many)
		text, want := impl.JournalText(list), ""
		for _, d := range list {
			want += textOfDeed(d) + "\n"
		}
		if text != want {
			t.Fatalf("%q, not %q", text, want)
		}
		if read, length := impl.ReadJournal(text); !slices.Equal(read, list) || length != len(text) {
			t.Fatal(list, read, length)
		}
	}
	if text := impl.JournalText(nil); text != "" {
		t.Fatalf("%q", text)
	}
	long := textDeeds(row, 5000)
	if read, length := impl.ReadJournal(impl.JournalText(long)); !slices.Equal(read, long) || length != len(impl.JournalText(long)) {
		t.Fatal("a long one", len(read), length)
	}
}

func TestJournalsOfDeedsWithoutText(t *testing.T) {
	row := &numbers{state: 113}
	noTextDeeds(func(d impl.ExDeed) {
		list := textDeeds(row, row.below(4))
		list = slices.Insert(list, row.below(len(list)+1), d)
		if text := impl.JournalText(list); text != "" {
			t.Fatalf("%v: %q", list, text)
		}
	})
	good := impl.ExDeed{Kind: dropKind, Line: 3}
	for _, list := range [][]impl.ExDeed{{{Kind: 3}}, {good, {Kind: 3}}, {{Kind: 3}, good}, {good, {Kind: 3}, good}, {good, good, {Kind: dropKind, Line: 100}}} {
		if text := impl.JournalText(list); text != "" {
			t.Fatalf("%v: %q", list, text)
		}
	}
}

// wantJournal reads a journal line by line from the front: each line is the text up to the first newline.
func wantJournal(s string) ([]impl.ExDeed, int) {
	list, read := []impl.ExDeed{}, 0
	for end := range len(s) {
		if s[end] != '\n' {
			continue
		}
		d, ok := deedsByText()[s[read:end]]
		if !ok {
			break
		}
		list, read = append(list, d), end+1
	}
	return list, read
}

// cutAnywhere fails the test if of any beginning of a journal not the first ones of its deeds are read, and no others.
func cutAnywhere(t *testing.T, text string, list []impl.ExDeed) {
	t.Helper()
	lines := 0
	for length := range len(text) + 1 {
		if length > 0 && text[length-1] == '\n' {
			lines++
		}
		read, many := impl.ReadJournal(text[:length])
		if !slices.Equal(read, list[:lines]) || many != strings.LastIndex(text[:length], "\n")+1 {
			t.Fatalf("%q: %v, %d", text[:length], read, many)
		}
	}
}

// Promise 31, ReadJournal: JournalText of the deeds is what was read; of any beginning of the text the first ones of these deeds are read, and no others; and said line by line they lead to the exchange to which ExRun leads.
func TestWhereverAJournalIsCut(t *testing.T) {
	someExchanges(6, func(row *numbers, e impl.Exchange) {
		list := slices.DeleteFunc(anyDeeds(row, e, 25), func(d impl.ExDeed) bool { return textOfDeed(d) == "" })
		text := impl.JournalText(list)
		cutAnywhere(t, text, list)
		for length := range len(text) + 1 {
			read, many := impl.ReadJournal(text[:length])
			if impl.JournalText(read) != text[:many] {
				t.Fatalf("%q: %v", text[:length], read)
			}
			said := e
			for line := range strings.Lines(text[:many]) {
				said, _ = impl.ExLine(said, strings.TrimSuffix(line, "\n"))
			}
			after, _ := impl.ExRun(e, read)
			sameExchange(t, "said line by line", said, after)
		}
	})
}

func TestReadJournalCases(t *testing.T) {
	call, drop := impl.ExDeed{Kind: callKind, Line: 0, Number: "2"}, impl.ExDeed{Kind: dropKind, Line: 3}
	for _, c := range []struct {
		text string
		list []impl.ExDeed
		many int
	}{
		{"", nil, 0},
		{"\n", nil, 0},
		{"\n\n", nil, 0},
		{"call 0 2", nil, 0},
		{"call 0 2\n", []impl.ExDeed{call}, 9},
		{"call 0 2\n\n", []impl.ExDeed{call}, 9},
		{"call 0 2\n\ndrop 3\n", []impl.ExDeed{call}, 9},
		{"\ncall 0 2\n", nil, 0},
		{" call 0 2\n", nil, 0},
		{"call 0 2 \n", nil, 0},
		{"call 0 2\r\n", nil, 0},
		{"call 0 2\ndrop 3\ndrop", []impl.ExDeed{call, drop}, 16},
		{"call 0 2\ndrop 3\ndrop 3", []impl.ExDeed{call, drop}, 16},
		{"call 0 2\ndrop 3\nnight\ndrop 3\n", []impl.ExDeed{call, drop}, 16},
		{"call 0 2\ndrop 03\ndrop 3\n", []impl.ExDeed{call}, 9},
		{"call 0 2\ndrop 3 \n", []impl.ExDeed{call}, 9},
		{"drop 3\ndrop 3\ndrop 3\n", []impl.ExDeed{drop, drop, drop}, 21},
		{"drop 3\x00\n", nil, 0},
		{"hello\ndrop 3\n", nil, 0},
		{"drop 3\n" + strings.Repeat("x", 1000), []impl.ExDeed{drop}, 7},
	} {
		list, many := impl.ReadJournal(c.text)
		if !slices.Equal(list, c.list) || many != c.many {
			t.Fatalf("%q: %v, %d", c.text, list, many)
		}
	}
}

func TestReadJournalOfSpoiledText(t *testing.T) {
	row := &numbers{state: 127}
	for range 12 {
		text := impl.JournalText(textDeeds(row, 1+row.below(5)))
		textsNear([]string{text}, func(text string) {
			list, many := impl.ReadJournal(text)
			want, wantMany := wantJournal(text)
			if !slices.Equal(list, want) || many != wantMany || impl.JournalText(list) != text[:many] {
				t.Fatalf("%q: %v, %d", text, list, many)
			}
		})
	}
}

func TestJournalsAreNewMemory(t *testing.T) {
	row := &numbers{state: 131}
	for many := range 20 {
		list := roomBehind(textDeeds(row, many), impl.ExDeed{Kind: 5}, impl.ExDeed{Line: 6})
		before := slices.Clone(list[:cap(list)])
		text := impl.JournalText(list)
		first, _ := impl.ReadJournal(text)
		second, _ := impl.ReadJournal(text)
		filled(first, impl.ExDeed{Kind: -7})
		if !slices.Equal(second, before[:many]) {
			t.Fatal("shared with another result", second)
		}
		filled(second, impl.ExDeed{Kind: -7})
		if third, _ := impl.ReadJournal(text); !slices.Equal(third, before[:many]) {
			t.Fatal("kept", third)
		}
		sameMemory(t, "a list of deeds", list, before)
	}
}
