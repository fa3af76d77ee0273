package tests

import (
	"slices"
	"strconv"
	"strings"
	"testing"

	"loop.example/circuitswitching/impl"
)

// said is a line of text with the answer that it must have.
type said struct {
	line   string
	answer string
}

// sayAll fails the test if lines of text, one after the other, have not the answers that they must have.
func sayAll(t *testing.T, e impl.Exchange, list []said) impl.Exchange {
	t.Helper()
	lines, want := []string{}, []string{}
	one := e
	for k, s := range list {
		lines, want = append(lines, s.line), append(want, s.answer)
		after, answer := impl.ExLine(one, s.line)
		if answer != s.answer {
			t.Fatalf("line %d, %q: %q, not %q", k, s.line, answer, s.answer)
		}
		one = after
	}
	after, answers := impl.ExLines(e, lines)
	if !slices.Equal(answers, want) {
		t.Fatal(lines, answers, want)
	}
	sameExchange(t, "at once", after, one)
	return after
}

func TestExamplesOfTheDocument(t *testing.T) {
	e := impl.ExchangeNew(impl.Shape{Outer: 2, Each: 2, Middle: 2}, []string{"0", "10", "11", "2"})
	after := sayAll(t, e, []said{
		{"call 0 2", "ok"}, {"calls", "1"}, {"who 3", "0"}, {"via 0", "0"}, {"call 1 2", "busy"}, {"call 1 3", "wrong"}, {"call 1 11", "ok"},
		{"number 2 3", "ok"}, {"plan", "0,10,3,2"}, {"drop 2", "ok"}, {"who 1", "none"}, {"night", "ok"}, {"calls", "0"}, {"call 9 0", "no"},
	})
	sameExchange(t, "after the examples", after, impl.Exchange{Net: e.Net, Plan: []string{"0", "10", "3", "2"}})
}

func TestRefusals(t *testing.T) {
	sayAll(t, example(impl.Call{In: 0, Out: 3, Via: 0}), []said{
		{"call 1 10", "busy"}, // itself
		{"call 0 0", "busy"},
		{"call 0 2", "busy"}, // already so
		{"call 0 11", "busy"},
		{"call 3 0", "busy"},
		{"call 1 0", "busy"},
		{"call 1 1", "wrong"}, // the beginning of numbers
		{"call 0 1", "wrong"}, // from a line that has a call
		{"call 1 20", "wrong"},
		{"call 1 333", "wrong"},
		{"call 4 0", "no"}, // no such line, whatever number
		{"call 4 1", "no"},
		{"call 99 333", "no"},
		{"call 100 0", "what"},
		{"call 1 4", "what"},
		{"call 1 0000", "what"},
		{"call 1", "what"},
		{"drop 1", "no"},
		{"drop 4", "no"},
		{"drop 99", "no"},
		{"drop 100", "what"},
		{"drop 0 0", "what"},
		{"drop 00", "what"},
		{"number 1 10", "no"}, // the same
		{"number 1 11", "no"},
		{"number 1 1", "no"},
		{"number 1 20", "no"},
		{"number 4 3", "no"},
		{"number 1 4", "what"},
		{"number 1 0000", "what"},
		{"number 1", "what"},
		{"calls", "1"},
		{"plan", "0,10,11,2"},
	})
}

func TestQuestions(t *testing.T) {
	after := sayAll(t, crowded(), []said{
		{"calls", "2"}, {"plan", "0,1,20,21,22,3"},
		{"who 0", "4"}, {"who 1", "none"}, {"who 2", "5"}, {"who 3", "none"}, {"who 4", "0"}, {"who 5", "2"}, {"who 6", "none"}, {"who 9999", "none"}, {"who 10000", "what"}, {"who 00", "what"}, {"who 04", "what"}, {"who 0004", "what"},
		{"via 0", "0"}, {"via 1", "none"}, {"via 2", "1"}, {"via 3", "none"}, {"via 4", "0"}, {"via 5", "1"}, {"via 6", "none"}, {"via 9999", "none"}, {"via 10000", "what"}, {"via 00", "what"}, {"via 05", "what"}, {"via -1", "what"},
		// Nobody who is connected hears anything of it when his call is moved.
		{"call 1 21", "ok"}, {"calls", "3"}, {"who 5", "2"}, {"via 5", "0"}, {"via 2", "0"}, {"who 1", "3"}, {"via 3", "1"}, {"via 0", "0"},
	})
	want := []impl.Call{{In: 0, Out: 4, Via: 0}, {In: 5, Out: 2, Via: 0}, {In: 1, Out: 3, Via: 1}}
	sameCalls(t, "moved", after.Net, after.Calls, want)
}

func TestNightTwice(t *testing.T) {
	after := sayAll(t, crowded(), []said{{"night", "ok"}, {"calls", "0"}, {"night", "ok"}, {"who 0", "none"}, {"via 0", "none"}, {"plan", "0,1,20,21,22,3"}, {"drop 0", "no"}})
	sameExchange(t, "at night", after, impl.Exchange{Net: crowded().Net, Plan: crowded().Plan})
}

// lineRight fails the test if ExLine does not do what it has to do, and returns the exchange after it.
func lineRight(t *testing.T, e impl.Exchange, line string) impl.Exchange {
	t.Helper()
	after, answer := impl.ExLine(e, line)
	want, wantAnswer := wantLine(e, line)
	if answer != wantAnswer || !equalExchanges(after, want) {
		t.Fatalf("%v, %q: %v, %q, not %v, %q", e, line, after, answer, want, wantAnswer)
	}
	if !isExchange(after) || !impl.ExchangeValid(after) {
		t.Fatal("not valid", e, line, after)
	}
	if answer != "ok" && !equalExchanges(after, e) {
		t.Fatal("changed without ok", e, line, answer, after)
	}
	return after
}

// Promise 84, ExLine: the exchange after a line is valid; unless the answer is ok, it is the exchange before; and a line that is no more than a space is answered by what.
func TestQuestionsChangeNothing(t *testing.T) {
	someExchanges(8, func(row *numbers, e impl.Exchange) {
		if after, answer := impl.ExLine(e, " "); answer != "what" || !equalExchanges(after, e) {
			t.Fatal(e, after, answer)
		}
		for _, line := range otherTexts() {
			lineRight(t, e, line)
		}
		for range 40 {
			e = lineRight(t, e, anyLine(row, e))
		}
	})
	row := &numbers{state: 137}
	crowdedExchanges(func(e impl.Exchange) {
		for range 6 {
			lineRight(t, e, anyLine(row, e))
		}
	})
}

func TestEveryDeedAsALine(t *testing.T) {
	for _, e := range []impl.Exchange{example(impl.Call{In: 3, Out: 1, Via: 1}), crowded()} {
		for text := range deedsByText() {
			lineRight(t, e, text)
		}
	}
}

func TestNumbersOfLinesAsText(t *testing.T) {
	e := crowded()
	for n := range 10200 {
		text := strconv.Itoa(n)
		lineRight(t, e, "who "+text)
		lineRight(t, e, "via "+text)
	}
}

func TestLinesNearOthers(t *testing.T) {
	lines := []string{"night", "calls", "plan", "who 0", "via 0", "who 5", "via 12", "who 9999", "call 1 21", "call 0 22", "drop 4", "drop 10", "number 1 13", "number 99 0"}
	for _, e := range []impl.Exchange{crowded(), nine(impl.Call{In: 5, Out: 0, Via: 2})} {
		textsNear(lines, func(line string) { lineRight(t, e, line) })
	}
}

// Promise 32, ExLines: two parts of the lines, one after the other, lead to the same exchange and the same answers, of which none is empty; and behind any lines, night leaves no call.
func TestWhateverIsSaidTheNightIsQuiet(t *testing.T) {
	someExchanges(10, func(row *numbers, e impl.Exchange) {
		lines := anyLines(row, e, row.below(mostLinesText+1))
		after, answers := impl.ExLines(e, lines)
		want := e
		for k, line := range lines {
			next, answer := wantLine(want, line)
			if k >= len(answers) || answers[k] != answer || answers[k] == "" {
				t.Fatalf("%v, %q: %q, at %d not %q", e, lines, answers, k, answer)
			}
			want = next
		}
		sameExchange(t, "after all lines", after, want)
		if len(answers) != len(lines) {
			t.Fatal(e, lines, answers)
		}
		for k := range len(lines) + 1 {
			between, first := impl.ExLines(e, lines[:k])
			end, second := impl.ExLines(between, lines[k:])
			if !equalExchanges(end, after) || !slices.Equal(slices.Concat(first, second), answers) {
				t.Fatal("in two parts", e, lines, k, end, after)
			}
			night, _ := impl.ExLines(between, []string{"night"})
			sameExchange(t, "at night", night, impl.Exchange{Net: e.Net, Plan: between.Plan})
		}
	})
}

func TestManyLines(t *testing.T) {
	e := example(impl.Call{In: 0, Out: 3, Via: 0})
	for many := range mostLinesText + 1 {
		after, answers := impl.ExLines(e, slices.Repeat([]string{"calls"}, many))
		if !slices.Equal(answers, slices.Repeat([]string{"1"}, many)) {
			t.Fatal(many, answers)
		}
		sameExchange(t, "as before", after, e)
	}
	for _, many := range []int{mostLinesText + 1, mostLinesText + 2, 1000} {
		for _, line := range []string{"calls", "", "night", "what"} {
			if after, answers := impl.ExLines(e, slices.Repeat([]string{line}, many)); !isNoExchange(after) || len(answers) != 0 {
				t.Fatal(many, line, after, answers)
			}
		}
	}
	// A long line is one line.
	long := strings.Repeat("calls\n", 50)
	if after, answers := impl.ExLines(e, []string{long}); !slices.Equal(answers, []string{"what"}) || !equalExchanges(after, e) {
		t.Fatal(after, answers)
	}
}
