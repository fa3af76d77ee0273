package tests

import (
	"math"
	"slices"
	"strings"
	"testing"

	"loop.example/circuitswitching/impl"
)

func TestExchangeConstants(t *testing.T) {
	if impl.ExCall != callKind || impl.ExDrop != dropKind || impl.ExNumber != numberKind || impl.MaxLinesText != mostLinesText {
		t.Fatal(impl.ExCall, impl.ExDrop, impl.ExNumber, impl.MaxLinesText)
	}
}

// example is the exchange of the document's examples.
func example(calls ...impl.Call) impl.Exchange {
	return impl.Exchange{Net: impl.Shape{Outer: 2, Each: 2, Middle: 2}, Plan: []string{"0", "10", "11", "2"}, Calls: calls}
}

// Promise 77, ExchangeValid: in a valid exchange nobody is in two calls; without calls it is valid.
func TestLinesHaveOneCall(t *testing.T) {
	exchanges(func(e impl.Exchange) {
		if !impl.ExchangeValid(e) {
			t.Fatal(e)
		}
		if !impl.ExchangeValid(impl.Exchange{Net: e.Net, Plan: e.Plan}) {
			t.Fatal("without calls", e)
		}
	})
	valid, others := 0, 0
	for _, s := range exchangeShapes() {
		if wiresOf(s) > 4 || s.Middle > 2 {
			continue
		}
		allStates(s, func(s impl.Shape, calls []impl.Call) {
			e := impl.Exchange{Net: s, Plan: []string{"0", "10", "11", "2"}[:wiresOf(s)], Calls: calls}
			if impl.ExchangeValid(e) != oneCallEach(calls) {
				t.Fatal(e)
			}
			if oneCallEach(calls) {
				valid++
			} else {
				others++
			}
		})
	}
	if valid < 50 || others < 50 {
		t.Fatal("too few calls", valid, others)
	}
}

func TestExchangeValidCases(t *testing.T) {
	for _, calls := range [][]impl.Call{
		nil,
		{{In: 0, Out: 1, Via: 1}},
		{{In: 3, Out: 0, Via: 0}, {In: 1, Out: 2, Via: 0}},
		{{In: 2, Out: 3, Via: 1}, {In: 0, Out: 1, Via: 1}},
		{{In: 0, Out: 2, Via: 0}, {In: 1, Out: 3, Via: 1}},
	} {
		if !impl.ExchangeValid(example(calls...)) {
			t.Fatal(calls)
		}
	}
	for _, calls := range [][]impl.Call{
		{{In: 0, Out: 0, Via: 0}}, // to itself
		{{In: 3, Out: 3, Via: 1}},
		{{In: 0, Out: 3, Via: 0}, {In: 1, Out: 1, Via: 1}},
		{{In: 0, Out: 2, Via: 0}, {In: 2, Out: 1, Via: 0}}, // the output of one and the input of another one
		{{In: 2, Out: 1, Via: 0}, {In: 0, Out: 2, Via: 0}},
		{{In: 0, Out: 2, Via: 0}, {In: 2, Out: 0, Via: 0}}, // in both directions
		{{In: 0, Out: 2, Via: 0}, {In: 0, Out: 3, Via: 1}}, // the input of two
		{{In: 0, Out: 2, Via: 0}, {In: 3, Out: 2, Via: 1}}, // the output of two
		{{In: 0, Out: 2, Via: 0}, {In: 1, Out: 3, Via: 0}}, // the same middle switch
		{{In: 0, Out: 4, Via: 0}},
		{{In: -1, Out: 3, Via: 0}},
		{{In: 0, Out: 3, Via: 2}},
		{{In: 0, Out: 3, Via: -1}},
	} {
		if impl.ExchangeValid(example(calls...)) {
			t.Fatal(calls)
		}
	}
}

func TestExchangesThatAreNotValid(t *testing.T) {
	tried := 0
	badExchanges(func(e impl.Exchange) {
		tried++
		if impl.ExchangeValid(e) {
			t.Fatal(e)
		}
		if list := impl.NightDeeds(e); len(list) != 0 {
			t.Fatal(e, list)
		}
		for line := -1; line <= len(e.Plan) && line < 12; line++ {
			if impl.PeerOf(e, line) != -1 {
				t.Fatal(e, line)
			}
		}
		for _, number := range append([]string{"", "0", "10", "4"}, e.Plan[:min(len(e.Plan), 12)]...) {
			if impl.LineOf(e, number) != -1 {
				t.Fatal(e, number)
			}
		}
		nothingOf(t, e)
	})
	if tried < 10000 {
		t.Fatal("too few exchanges that are not valid", tried)
	}
}

// nothingOf fails the test if an exchange comes out where one that is not valid goes in.
func nothingOf(t *testing.T, e impl.Exchange) {
	t.Helper()
	deeds := []impl.ExDeed{{Kind: callKind, Line: 0, Number: "1"}, {Kind: dropKind, Line: 0}, {Kind: dropKind, Line: 1}, {Kind: numberKind, Line: 0, Number: "333"}, {Kind: 7, Line: 0}, {Kind: dropKind, Line: -1}}
	for k, d := range deeds {
		if after, ok := impl.ExDo(e, d); ok || !isNoExchange(after) {
			t.Fatal(e, d, after, ok)
		}
		if after, many := impl.ExRun(e, deeds[:k]); many != 0 || !isNoExchange(after) {
			t.Fatal(e, deeds[:k], after, many)
		}
	}
	lines := []string{"night", "calls", "plan", "who 0", "via 0", "drop 0", "call 0 1", "number 0 333", "", " ", "hello"}
	for k, line := range lines {
		if after, answer := impl.ExLine(e, line); answer != "" || !isNoExchange(after) {
			t.Fatal(e, line, after, answer)
		}
		if after, answers := impl.ExLines(e, lines[:k]); len(answers) != 0 || !isNoExchange(after) {
			t.Fatal(e, lines[:k], after, answers)
		}
	}
}

// Promise 78, ExchangeNew: it is valid, without calls, and every number is that of its line.
func TestNewExchangesAreQuiet(t *testing.T) {
	someExchanges(20, func(row *numbers, e impl.Exchange) {
		fresh := impl.ExchangeNew(e.Net, e.Plan)
		sameExchange(t, "new", fresh, impl.Exchange{Net: e.Net, Plan: e.Plan})
		if !impl.ExchangeValid(fresh) || len(fresh.Calls) != 0 {
			t.Fatal(fresh)
		}
		for line, number := range e.Plan {
			if impl.LineOf(fresh, number) != line {
				t.Fatal(fresh, line)
			}
		}
	})
	badExchanges(func(e impl.Exchange) {
		fresh := impl.ExchangeNew(e.Net, e.Plan)
		if isExchange(impl.Exchange{Net: e.Net, Plan: e.Plan}) {
			sameExchange(t, "new", fresh, impl.Exchange{Net: e.Net, Plan: e.Plan})
		} else if !isNoExchange(fresh) {
			t.Fatal(e, fresh)
		}
	})
	// A network of twelve lines has more lines than a plan may have numbers.
	for middle := 1; middle <= mostMiddle; middle++ {
		for many := range 14 {
			if fresh := impl.ExchangeNew(impl.Shape{Outer: 4, Each: 3, Middle: middle}, textsOf(3)[:many]); !isNoExchange(fresh) {
				t.Fatal(fresh)
			}
		}
	}
}

// Promise 79, PeerOf: the line with which its peer is connected is the line itself.
func TestWhoIsConnectedWithMe(t *testing.T) {
	exchanges(func(e impl.Exchange) {
		for line, want := range peersOf(e) {
			peer := impl.PeerOf(e, line)
			if peer != want {
				t.Fatal(e, line, peer)
			}
			if peer >= 0 && impl.PeerOf(e, peer) != line {
				t.Fatal("not the line itself", e, line, peer)
			}
		}
		for _, line := range wrongWires(e.Net) {
			if impl.PeerOf(e, line) != -1 {
				t.Fatal(e, line)
			}
		}
	})
}

// Promise 80, LineOf: the number of the line is the text; and DialOne of it, whatever is dialled behind it, is the line.
func TestNumbersTellLines(t *testing.T) {
	exchanges(func(e impl.Exchange) {
		for _, text := range append(numbersNear(e), "123123", "-1", "00", strings.Repeat("0", 1000)) {
			line := impl.LineOf(e, text)
			if line != slices.Index(e.Plan, text) {
				t.Fatal(e, text, line)
			}
			if line < 0 {
				continue
			}
			if e.Plan[line] != text {
				t.Fatal("not the number of the line", e, text, line)
			}
			for _, behind := range append(begins(), "3333333") {
				if k, length := impl.DialOne(e.Plan, text+behind); k != line || length != len(text) {
					t.Fatal("dialled", e, text, behind, k, length)
				}
			}
		}
	})
}

// Promise 28, ExDo: whatever calls there are, a call between two lines without calls, to a number that there is, can be put; the exchange is valid, and all others are connected as before.
func TestNobodyWhoIsFreeIsRefused(t *testing.T) {
	put, moved := 0, 0
	try := func(e impl.Exchange) {
		peers := peersOf(e)
		for line := range e.Plan {
			for to := range e.Plan {
				if line != to && peers[line] < 0 && peers[to] < 0 {
					put++
					moved += putCall(t, e, line, to)
				}
			}
		}
	}
	exchanges(try)
	crowdedExchanges(try)
	if put < 5000 || moved < 500 {
		t.Fatal("too few calls", put, moved)
	}
}

// putCall puts a call between two lines without calls, fails the test if it is refused or if others are not connected as before, and returns how many calls were moved.
func putCall(t *testing.T, e impl.Exchange, line int, to int) int {
	t.Helper()
	after, ok := impl.ExDo(e, impl.ExDeed{Kind: callKind, Line: line, Number: e.Plan[to]})
	if !ok || !isExchange(after) || !impl.ExchangeValid(after) {
		t.Fatal("refused", e, line, to, after)
	}
	want := peersOf(e)
	want[line], want[to] = to, line
	if !slices.Equal(peersOf(after), want) || !slices.Equal(after.Plan, e.Plan) || after.Net != e.Net {
		t.Fatal("others are not as before", e, line, to, after)
	}
	if !slices.Equal(endsOf(after.Calls), append(endsOf(e.Calls), impl.Call{In: line, Out: to})) {
		t.Fatal("not behind the others", e, line, to, after)
	}
	byMove, _ := wantMove(e.Net, e.Calls, line, to)
	sameCalls(t, "not by CallMove", e.Net, after.Calls, byMove)
	return impl.CallsMoved(e.Calls, after.Calls)
}

// crowded is an exchange in which the call from the line 1 to the line 3 has no free middle switch: its outer switch uses the first one, and that of the other line the second one.
func crowded() impl.Exchange {
	return impl.Exchange{
		Net:   impl.Shape{Outer: 3, Each: 2, Middle: 2},
		Plan:  []string{"0", "1", "20", "21", "22", "3"},
		Calls: []impl.Call{{In: 0, Out: 4, Via: 0}, {In: 5, Out: 2, Via: 1}},
	}
}

// nine is such an exchange with nine lines, in which both outer switches use as many middle switches as they may for a call from the line 2 to the line 5.
func nine(calls ...impl.Call) impl.Exchange {
	return impl.Exchange{
		Net:   impl.Shape{Outer: 3, Each: 3, Middle: 3},
		Plan:  []string{"0", "10", "11", "12", "13", "20", "21", "22", "23"},
		Calls: calls,
	}
}

func TestMovedCallsGoOn(t *testing.T) {
	for _, c := range []struct {
		e      impl.Exchange
		line   int
		number string
		calls  []impl.Call
	}{
		{crowded(), 1, "21", []impl.Call{{In: 0, Out: 4, Via: 0}, {In: 5, Out: 2, Via: 0}, {In: 1, Out: 3, Via: 1}}},
		{nine([]impl.Call{{In: 0, Out: 6, Via: 0}, {In: 1, Out: 7, Via: 1}, {In: 8, Out: 3, Via: 2}}...), 2, "20", []impl.Call{{In: 0, Out: 6, Via: 0}, {In: 1, Out: 7, Via: 1}, {In: 8, Out: 3, Via: 0}, {In: 2, Out: 5, Via: 2}}},
		{nine([]impl.Call{{In: 0, Out: 6, Via: 0}, {In: 7, Out: 3, Via: 1}, {In: 8, Out: 4, Via: 2}}...), 2, "20", []impl.Call{{In: 0, Out: 6, Via: 0}, {In: 7, Out: 3, Via: 0}, {In: 8, Out: 4, Via: 2}, {In: 2, Out: 5, Via: 1}}},
		{crowded(), 3, "1", []impl.Call{{In: 0, Out: 4, Via: 0}, {In: 5, Out: 2, Via: 1}, {In: 3, Out: 1, Via: 0}}},
	} {
		after, ok := impl.ExDo(c.e, impl.ExDeed{Kind: callKind, Line: c.line, Number: c.number})
		if !ok || !slices.Equal(after.Calls, c.calls) || !impl.ExchangeValid(after) {
			t.Fatal(c, after, ok)
		}
		for line, peer := range peersOf(c.e) {
			if peer >= 0 && impl.PeerOf(after, line) != peer {
				t.Fatal("not connected any more", line, after)
			}
		}
	}
}

// doCases are deeds at the exchange of the examples with a call from the line 0 to the line 3, and what becomes of it; nothing for those that are refused.
func doCases() []struct {
	d     impl.ExDeed
	ok    bool
	plan  string
	calls []impl.Call
} {
	one := impl.Call{In: 0, Out: 3, Via: 0}
	return []struct {
		d     impl.ExDeed
		ok    bool
		plan  string
		calls []impl.Call
	}{
		{impl.ExDeed{Kind: callKind, Line: 1, Number: "11"}, true, "0,10,11,2", []impl.Call{one, {In: 1, Out: 2, Via: 1}}},
		{impl.ExDeed{Kind: callKind, Line: 2, Number: "10"}, true, "0,10,11,2", []impl.Call{one, {In: 2, Out: 1, Via: 0}}},
		{impl.ExDeed{Kind: callKind, Line: 1, Number: "10"}, false, "", nil}, // itself
		{impl.ExDeed{Kind: callKind, Line: 1, Number: "0"}, false, "", nil},  // who has a call
		{impl.ExDeed{Kind: callKind, Line: 1, Number: "2"}, false, "", nil},
		{impl.ExDeed{Kind: callKind, Line: 0, Number: "10"}, false, "", nil},
		{impl.ExDeed{Kind: callKind, Line: 3, Number: "10"}, false, "", nil},
		{impl.ExDeed{Kind: callKind, Line: 3, Number: "0"}, false, "", nil},
		{impl.ExDeed{Kind: callKind, Line: 1, Number: "1"}, false, "", nil}, // the beginning of a number
		{impl.ExDeed{Kind: callKind, Line: 1, Number: "110"}, false, "", nil},
		{impl.ExDeed{Kind: callKind, Line: 1, Number: ""}, false, "", nil},
		{impl.ExDeed{Kind: callKind, Line: 4, Number: "11"}, false, "", nil},
		{impl.ExDeed{Kind: callKind, Line: -1, Number: "11"}, false, "", nil},
		{impl.ExDeed{Kind: dropKind, Line: 0}, true, "0,10,11,2", nil},
		{impl.ExDeed{Kind: dropKind, Line: 3}, true, "0,10,11,2", nil},
		{impl.ExDeed{Kind: dropKind, Line: 0, Number: "0"}, false, "", nil},
		{impl.ExDeed{Kind: dropKind, Line: 3, Number: "2"}, false, "", nil},
		{impl.ExDeed{Kind: dropKind, Line: 1}, false, "", nil},
		{impl.ExDeed{Kind: dropKind, Line: 4}, false, "", nil},
		{impl.ExDeed{Kind: dropKind, Line: -1}, false, "", nil},
		{impl.ExDeed{Kind: numberKind, Line: 3, Number: "3"}, true, "0,10,11,3", []impl.Call{one}},
		{impl.ExDeed{Kind: numberKind, Line: 1, Number: "130"}, true, "0,130,11,2", []impl.Call{one}},
		{impl.ExDeed{Kind: numberKind, Line: 0, Number: "00"}, true, "00,10,11,2", []impl.Call{one}}, // the own number may begin it
		{impl.ExDeed{Kind: numberKind, Line: 1, Number: "100"}, true, "0,100,11,2", []impl.Call{one}},
		{impl.ExDeed{Kind: numberKind, Line: 1, Number: "1"}, false, "", nil}, // begins another one
		{impl.ExDeed{Kind: numberKind, Line: 1, Number: "20"}, false, "", nil},
		{impl.ExDeed{Kind: numberKind, Line: 1, Number: "10"}, false, "", nil}, // the same
		{impl.ExDeed{Kind: numberKind, Line: 1, Number: "11"}, false, "", nil},
		{impl.ExDeed{Kind: numberKind, Line: 1, Number: ""}, false, "", nil},
		{impl.ExDeed{Kind: numberKind, Line: 1, Number: "4"}, false, "", nil},
		{impl.ExDeed{Kind: numberKind, Line: 1, Number: "3333"}, false, "", nil},
		{impl.ExDeed{Kind: numberKind, Line: 4, Number: "3"}, false, "", nil},
		{impl.ExDeed{Kind: numberKind, Line: math.MinInt, Number: "3"}, false, "", nil},
		{impl.ExDeed{Kind: 3, Line: 0}, false, "", nil},
		{impl.ExDeed{Kind: -1, Line: 1, Number: "11"}, false, "", nil},
		{impl.ExDeed{Kind: math.MaxInt, Line: 1, Number: "3"}, false, "", nil},
	}
}

func TestExDoCases(t *testing.T) {
	before := example(impl.Call{In: 0, Out: 3, Via: 0})
	for _, c := range doCases() {
		want := before
		if c.ok {
			want = impl.Exchange{Net: before.Net, Plan: strings.Split(c.plan, ","), Calls: c.calls}
		}
		after, ok := impl.ExDo(before, c.d)
		if ok != c.ok {
			t.Fatal(c.d, after, ok)
		}
		sameExchange(t, "a deed", after, want)
	}
	// Alone one has any number, also a part of the own one or one that begins with it; and there is nobody to call.
	alone := impl.Exchange{Net: impl.Shape{Outer: 1, Each: 1, Middle: 1}, Plan: []string{"12"}}
	for _, number := range allNumbers() {
		after, ok := impl.ExDo(alone, impl.ExDeed{Kind: numberKind, Line: 0, Number: number})
		if ok != (number != "12") || after.Plan[0] != number {
			t.Fatal(number, after, ok)
		}
		if _, ok := impl.ExDo(alone, impl.ExDeed{Kind: callKind, Line: 0, Number: number}); ok {
			t.Fatal(number)
		}
	}
}

func TestExDoEverything(t *testing.T) {
	try := func(e impl.Exchange, d impl.ExDeed) {
		after, ok := impl.ExDo(e, d)
		want, wantOk := wantDo(e, d)
		if ok != wantOk || !equalExchanges(after, want) {
			t.Fatal(e, d, after, ok, want, wantOk)
		}
		if !isExchange(after) {
			t.Fatal("not valid", e, d, after)
		}
		if !ok && !equalExchanges(after, e) {
			t.Fatal("refused, but changed", e, d, after)
		}
	}
	for _, e := range []impl.Exchange{example(), example(impl.Call{In: 3, Out: 1, Via: 1}), crowded(), nine(impl.Call{In: 0, Out: 6, Via: 2}, impl.Call{In: 5, Out: 4, Via: 0})} {
		deedsNear(e, func(d impl.ExDeed) { try(e, d) })
	}
	someExchanges(3, func(row *numbers, e impl.Exchange) {
		deedsNear(e, func(d impl.ExDeed) { try(e, d) })
	})
	several := func(row *numbers, e impl.Exchange) {
		for range 40 {
			try(e, anyDeed(row, e))
		}
	}
	someExchanges(40, several)
	row := &numbers{state: 103}
	crowdedExchanges(func(e impl.Exchange) { several(row, e) })
}

// Promise 29, ExRun: whatever is done, in whatever order, the exchange is valid, with the same network; and in two parts, one after the other, it is the same.
func TestNoTwoCallsEverMeet(t *testing.T) {
	done, refused := 0, 0
	someExchanges(25, func(row *numbers, e impl.Exchange) {
		list := anyDeeds(row, e, row.below(60))
		after, many := impl.ExRun(e, list)
		if !isExchange(after) || !impl.ExchangeValid(after) || after.Net != e.Net {
			t.Fatal(e, list, after)
		}
		want, wantMany := wantRun(e, list)
		sameExchange(t, "after all deeds", after, want)
		if many != wantMany {
			t.Fatal(e, list, many, wantMany)
		}
		for k := range len(list) + 1 {
			between, first := impl.ExRun(e, list[:k])
			end, second := impl.ExRun(between, list[k:])
			if !equalExchanges(end, after) || first+second != many {
				t.Fatal("in two parts", e, list, k, end, after)
			}
		}
		mixed := []impl.ExDeed{}
		for _, k := range row.perm(len(list)) {
			mixed = append(mixed, list[k])
		}
		if after, _ := impl.ExRun(e, mixed); !isExchange(after) || after.Net != e.Net {
			t.Fatal("in another order", e, mixed, after)
		}
		done, refused = done+many, refused+len(list)-many
	})
	if done < 500 || refused < 500 {
		t.Fatal("too few deeds", done, refused)
	}
}

func TestExRunCases(t *testing.T) {
	for _, c := range []struct {
		list []impl.ExDeed
		many int
		want impl.Exchange
	}{
		{nil, 0, example()},
		{[]impl.ExDeed{{Kind: dropKind, Line: 0}, {Kind: 9, Line: 0}, {Kind: callKind, Line: 7, Number: "0"}}, 0, example()},
		{[]impl.ExDeed{{Kind: callKind, Line: 0, Number: "0"}, {Kind: callKind, Line: 0, Number: "2"}, {Kind: callKind, Line: 3, Number: "0"}}, 1, example(impl.Call{In: 0, Out: 3, Via: 0})},
		{[]impl.ExDeed{{Kind: callKind, Line: 0, Number: "2"}, {Kind: dropKind, Line: 3}, {Kind: callKind, Line: 3, Number: "0"}}, 3, example(impl.Call{In: 3, Out: 0, Via: 0})},
		{[]impl.ExDeed{{Kind: numberKind, Line: 3, Number: "33"}, {Kind: callKind, Line: 0, Number: "2"}, {Kind: numberKind, Line: 3, Number: "2"}, {Kind: callKind, Line: 2, Number: "2"}}, 3, example(impl.Call{In: 2, Out: 3, Via: 0})},
	} {
		if after, many := impl.ExRun(example(), c.list); many != c.many || !equalExchanges(after, c.want) {
			t.Fatal(c, after, many)
		}
	}
}

// Promise 30, NightDeeds: all deeds are done, one after the other, from any valid exchange; then there are no calls, and the numbers are the same.
func TestAtNightItIsQuiet(t *testing.T) {
	exchanges(func(e impl.Exchange) {
		list := impl.NightDeeds(e)
		if len(list) != len(e.Calls) {
			t.Fatal(e, list)
		}
		for k, d := range list {
			if d != (impl.ExDeed{Kind: dropKind, Line: e.Calls[k].In}) {
				t.Fatal(e, list)
			}
		}
		after, many := impl.ExRun(e, list)
		if many != len(list) || len(after.Calls) != 0 {
			t.Fatal("not quiet", e, list, after)
		}
		sameExchange(t, "at night", after, impl.Exchange{Net: e.Net, Plan: e.Plan})
		if again := impl.NightDeeds(after); len(again) != 0 {
			t.Fatal("quiet already", after, again)
		}
	})
}

// resultsOf returns the exchanges that the functions return for an exchange, deeds and lines of text, and the other lists of their results.
func resultsOf(e impl.Exchange, deeds []impl.ExDeed, lines []string) ([]impl.Exchange, [][]string, [][]impl.ExDeed) {
	all := []impl.Exchange{impl.ExchangeNew(e.Net, e.Plan)}
	for _, d := range deeds {
		after, _ := impl.ExDo(e, d)
		all = append(all, after)
	}
	for k := range len(deeds) + 1 {
		after, _ := impl.ExRun(e, deeds[:k])
		all = append(all, after)
	}
	for _, line := range lines {
		after, _ := impl.ExLine(e, line)
		all = append(all, after)
	}
	answers := [][]string{}
	for k := range len(lines) + 1 {
		after, list := impl.ExLines(e, lines[:k])
		all, answers = append(all, after), append(answers, list)
	}
	return all, answers, [][]impl.ExDeed{impl.NightDeeds(e), impl.NightDeeds(e)}
}

// exchangesApart fails the test if results share memory with the arguments or with each other, or if an argument was written to.
func exchangesApart(t *testing.T, e impl.Exchange, deeds []impl.ExDeed, lines []string) {
	t.Helper()
	e = impl.Exchange{Net: e.Net, Plan: roomBehind(e.Plan, "3", "22", ""), Calls: callsWithRoom(e.Calls)}
	deeds, lines = roomBehind(deeds, impl.ExDeed{Kind: 5}, impl.ExDeed{Line: 6}), roomBehind(lines, "plan", "7")
	plan, calls := slices.Clone(e.Plan[:cap(e.Plan)]), slices.Clone(e.Calls[:cap(e.Calls)])
	deedsBefore, linesBefore := slices.Clone(deeds[:cap(deeds)]), slices.Clone(lines[:cap(lines)])
	unchanged := func() {
		t.Helper()
		sameMemory(t, "a plan", e.Plan, plan)
		sameMemory(t, "a list of calls", e.Calls, calls)
		sameMemory(t, "a list of deeds", deeds, deedsBefore)
		sameMemory(t, "a list of lines", lines, linesBefore)
	}
	impl.ExchangeValid(e)
	impl.PeerOf(e, 0)
	impl.LineOf(e, "0")
	impl.JournalText(deeds)
	all, answers, nights := resultsOf(e, deeds, lines)
	unchanged()
	again, answersAgain, nightsAgain := resultsOf(e, deeds, lines)
	for k := range all {
		sameExchange(t, "shared with another result", all[k], again[k])
		filled(all[k].Plan, "overwritten")
		overwriteCalls(all[k].Calls)
	}
	for k := range answers {
		if !slices.Equal(answers[k], answersAgain[k]) {
			t.Fatal("answers shared with another result", answers[k], answersAgain[k])
		}
		filled(answers[k], "overwritten")
	}
	for k := range nights {
		if !slices.Equal(nights[k], nightsAgain[k]) {
			t.Fatal("deeds shared with another result", nights[k], nightsAgain[k])
		}
		filled(nights[k], impl.ExDeed{Kind: -7})
	}
	unchanged()
}

func TestExchangesAreNotWrittenToAndNotShared(t *testing.T) {
	try := func(row *numbers, e impl.Exchange) {
		exchangesApart(t, e, anyDeeds(row, e, row.below(12)), anyLines(row, e, row.below(12)))
		deeds, lines := []impl.ExDeed{}, []string{"plan", "calls", "night", "what", "plan"}
		for line, number := range e.Plan {
			deeds = append(deeds, impl.ExDeed{Kind: dropKind, Line: line}, impl.ExDeed{Kind: callKind, Line: line, Number: number}, impl.ExDeed{Kind: numberKind, Line: line, Number: number}, impl.ExDeed{Kind: numberKind, Line: line, Number: number[:1] + "31"})
		}
		exchangesApart(t, e, deeds, lines)
	}
	someExchanges(6, try)
	row := &numbers{state: 101}
	for _, e := range []impl.Exchange{example(), crowded(), nine(impl.Call{In: 0, Out: 6, Via: 2}, impl.Call{In: 5, Out: 4, Via: 0})} {
		for range 20 {
			try(row, e)
		}
	}
	// A call that moves others moves them in memory of its own.
	exchangesApart(t, crowded(), []impl.ExDeed{{Kind: callKind, Line: 1, Number: "21"}}, []string{"call 1 21"})
}

func TestExchangesThatAreNotValidAreNotWrittenTo(t *testing.T) {
	k := 0
	badExchanges(func(e impl.Exchange) {
		if k++; k%10 == 0 {
			exchangesApart(t, e, []impl.ExDeed{{Kind: callKind, Line: 0, Number: "1"}, {Kind: dropKind, Line: 0}, {Kind: numberKind, Line: 0, Number: "3"}}, []string{"night", "plan"})
		}
	})
}
