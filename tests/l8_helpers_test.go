package tests

import (
	"math"
	"slices"
	"strconv"
	"strings"
	"sync"
	"testing"

	"loop.example/circuitswitching/impl"
)

// The kinds of deeds, impl.MaxLinesText and the greatest line of a text written out, so that changed ones are noticed.
const (
	callKind      = 0
	dropKind      = 1
	numberKind    = 2
	mostLinesText = 40
	lastTextLine  = 99
)

// exchangeShapes returns all networks that an exchange may have: with enough middle switches, and no more lines than a plan may have numbers.
func exchangeShapes() []impl.Shape {
	all := []impl.Shape{}
	for _, s := range shapes() {
		if s.Middle >= s.Each && wiresOf(s) <= mostNumbers {
			all = append(all, s)
		}
	}
	return all
}

// anyPlan returns so many numbers of which none begins with another one: some of those that are there if short numbers are divided by a further digit.
func anyPlan(row *numbers, many int) []string {
	texts := textsOf(1)
	for len(texts) < many || row.below(3) > 0 {
		k := row.below(len(texts))
		if text := texts[k]; len(text) < mostLong {
			texts = slices.Delete(texts, k, k+1)
			for _, digit := range textsOf(1) {
				texts = append(texts, text+digit)
			}
		}
	}
	plan := []string{}
	for _, k := range row.perm(len(texts))[:many] {
		plan = append(plan, texts[k])
	}
	return plan
}

// oneCallEach reports whether no line has two calls or one to itself. The calls have lines that are there.
func oneCallEach(calls []impl.Call) bool {
	var has [mostWires]bool
	for _, c := range calls {
		for _, line := range []int{c.In, c.Out} {
			if has[line] {
				return false
			}
			has[line] = true
		}
	}
	return true
}

// anyCalls returns calls that an exchange with a network may have, in any order. With more tries there are more calls.
func anyCalls(row *numbers, s impl.Shape, tries int) []impl.Call {
	calls := []impl.Call{}
	for range tries {
		more := further(calls, row.below(wiresOf(s)), row.below(wiresOf(s)), row.below(s.Middle))
		if canBe(s, more) && oneCallEach(more) {
			calls = more
		}
	}
	return calls
}

// smallExchanges visits the exchanges of small networks with all calls that they may have.
func smallExchanges(visit func(e impl.Exchange)) {
	for _, s := range exchangeShapes() {
		if wiresOf(s) > 4 || s.Middle > 2 {
			continue
		}
		plan := []string{"0", "10", "11", "2"}[:wiresOf(s)]
		allStates(s, func(s impl.Shape, calls []impl.Call) {
			if oneCallEach(calls) {
				visit(impl.Exchange{Net: s, Plan: slices.Clone(plan), Calls: calls})
			}
		})
	}
}

// someExchanges visits so many exchanges of each network, without calls, with a few, and with many.
func someExchanges(many int, visit func(row *numbers, e impl.Exchange)) {
	row := &numbers{state: 83}
	for _, s := range exchangeShapes() {
		for k := range many {
			visit(row, impl.Exchange{Net: s, Plan: anyPlan(row, wiresOf(s)), Calls: anyCalls(row, s, k*k%150)})
		}
	}
}

// exchanges visits all small exchanges and some of all networks.
func exchanges(visit func(e impl.Exchange)) {
	smallExchanges(visit)
	someExchanges(25, func(row *numbers, e impl.Exchange) { visit(e) })
}

// crowdedExchanges visits exchanges in which two lines without calls have no middle switch that is free, so that a call between them must move others.
func crowdedExchanges(visit func(e impl.Exchange)) {
	row := &numbers{state: 107}
	for _, s := range exchangeShapes() {
		if s.Middle > s.Each || s.Each == 1 || s.Outer < 3 {
			continue
		}
		for range 4000 {
			calls := anyCalls(row, s, 12)
			if isCrowded(s, calls) {
				visit(impl.Exchange{Net: s, Plan: anyPlan(row, wiresOf(s)), Calls: calls})
			}
		}
	}
}

// isCrowded tells whether there are two lines without calls that have no middle switch that is free.
func isCrowded(s impl.Shape, calls []impl.Call) bool {
	var has [mostWires]bool
	for _, c := range calls {
		has[c.In], has[c.Out] = true, true
	}
	for line := range wiresOf(s) {
		for to := range wiresOf(s) {
			if line != to && !has[line] && !has[to] && len(freeMiddles(s, calls, line, to)) == 0 {
				return true
			}
		}
	}
	return false
}

// goodPlan tells whether a plan is one, pair by pair.
func goodPlan(plan []string) bool {
	for k, number := range plan {
		if number == "" || len(number) > mostLong || strings.Trim(number, "0123") != "" {
			return false
		}
		for _, other := range plan[:k] {
			if meets(number, other) {
				return false
			}
		}
	}
	return len(plan) <= mostNumbers
}

// isExchange tells whether an exchange is valid.
func isExchange(e impl.Exchange) bool {
	if !slices.Contains(shapes(), e.Net) || e.Net.Middle < e.Net.Each {
		return false
	}
	return len(e.Plan) == wiresOf(e.Net) && goodPlan(e.Plan) && canBe(e.Net, e.Calls) && oneCallEach(e.Calls)
}

// badExchanges visits exchanges that are not valid, for each of the reasons that there are.
func badExchanges(visit func(e impl.Exchange)) {
	try := func(e impl.Exchange) {
		if !isExchange(e) {
			visit(e)
		}
	}
	row := &numbers{state: 89}
	for k, s := range append(badShapes(), shapes()...) {
		for length := range mostWires + 1 {
			if k%5 == 0 || length == s.Outer*s.Each {
				try(impl.Exchange{Net: s, Plan: anyPlan(row, length)})
			}
		}
	}
	someExchanges(4, func(row *numbers, e impl.Exchange) {
		net := e.Net
		net.Middle = net.Each - 1
		try(impl.Exchange{Net: net, Plan: e.Plan})
		spoilPlan(e, try)
		spoilCalls(row, e, try)
	})
	try(impl.Exchange{})
	try(impl.Exchange{Plan: []string{"0", "1"}})
	try(impl.Exchange{Net: impl.Shape{Outer: 1, Each: 1, Middle: 1}, Plan: make([]string, 1000), Calls: make([]impl.Call, 1000)})
}

// spoilPlan visits an exchange with one number less or more, and with other texts at the place of a number.
func spoilPlan(e impl.Exchange, visit func(e impl.Exchange)) {
	for k := range e.Plan {
		visit(impl.Exchange{Net: e.Net, Plan: slices.Delete(slices.Clone(e.Plan), k, k+1), Calls: e.Calls})
		for _, number := range e.Plan {
			for _, wrong := range []string{number, number[:1], number + "0", number + "3", number + "00", "", "4", "12a", " ", "0 ", "1230", "\xff"} {
				plan := slices.Clone(e.Plan)
				plan[k] = wrong
				visit(impl.Exchange{Net: e.Net, Plan: plan, Calls: e.Calls})
				visit(impl.Exchange{Net: e.Net, Plan: append(slices.Clone(e.Plan), wrong), Calls: e.Calls})
			}
		}
	}
}

// spoilCalls visits an exchange with calls of lines and middle switches that there are not, with a call more that meets others, and with lines that have two calls or one to themselves.
func spoilCalls(row *numbers, e impl.Exchange, visit func(e impl.Exchange)) {
	put := func(calls []impl.Call, c impl.Call, place int) {
		visit(impl.Exchange{Net: e.Net, Plan: e.Plan, Calls: slices.Insert(slices.Clone(calls), place, c)})
	}
	for line := range wiresOf(e.Net) {
		put(e.Calls, impl.Call{In: line, Out: line, Via: row.below(e.Net.Middle)}, len(e.Calls))
		for _, wrong := range wrongWires(e.Net) {
			put(e.Calls, impl.Call{In: wrong, Out: line, Via: 0}, row.below(len(e.Calls)+1))
			put(e.Calls, impl.Call{In: line, Out: wrong, Via: 0}, row.below(len(e.Calls)+1))
		}
		for other := range wiresOf(e.Net) {
			put(e.Calls, impl.Call{In: line, Out: other, Via: row.below(e.Net.Middle)}, row.below(len(e.Calls)+1))
		}
	}
	for k, c := range e.Calls {
		put(e.Calls, c, k)
		put(nil, impl.Call{In: c.In, Out: c.In, Via: c.Via}, 0)
		for _, wrong := range []int{math.MinInt, -1, e.Net.Middle, mostMiddle, math.MaxInt} {
			put(slices.Delete(slices.Clone(e.Calls), k, k+1), impl.Call{In: c.In, Out: c.Out, Via: wrong}, k)
		}
	}
}

// peersOf tells for each line the one with which it is connected, -1 for none.
func peersOf(e impl.Exchange) []int {
	peers := slices.Repeat([]int{-1}, len(e.Plan))
	for _, c := range e.Calls {
		peers[c.In], peers[c.Out] = c.Out, c.In
	}
	return peers
}

// viasOf tells for each line the middle switch of its call, -1 for none.
func viasOf(e impl.Exchange) []int {
	vias := slices.Repeat([]int{-1}, len(e.Plan))
	for _, c := range e.Calls {
		vias[c.In], vias[c.Out] = c.Via, c.Via
	}
	return vias
}

// endsOf returns calls without their middle switches.
func endsOf(calls []impl.Call) []impl.Call {
	ends := []impl.Call{}
	for _, c := range calls {
		ends = append(ends, impl.Call{In: c.In, Out: c.Out})
	}
	return ends
}

func copied(e impl.Exchange) impl.Exchange {
	return impl.Exchange{Net: e.Net, Plan: slices.Clone(e.Plan), Calls: slices.Clone(e.Calls)}
}

func equalExchanges(a impl.Exchange, b impl.Exchange) bool {
	return a.Net == b.Net && slices.Equal(a.Plan, b.Plan) && slices.Equal(a.Calls, b.Calls)
}

func isNoExchange(e impl.Exchange) bool {
	return equalExchanges(e, impl.Exchange{})
}

// sameExchange fails the test if an exchange is not what is wanted.
func sameExchange(t *testing.T, what string, e impl.Exchange, want impl.Exchange) {
	t.Helper()
	if !equalExchanges(e, want) {
		t.Fatalf("%s: %v, not %v", what, e, want)
	}
}

// wantDo returns what ExDo has to return for a valid exchange, in new memory.
func wantDo(e impl.Exchange, d impl.ExDeed) (impl.Exchange, bool) {
	after, peers := copied(e), peersOf(e)
	if !among(d.Line, len(e.Plan)) {
		return after, false
	}
	switch d.Kind {
	case callKind:
		to := slices.Index(e.Plan, d.Number)
		if to < 0 || to == d.Line || peers[to] >= 0 || peers[d.Line] >= 0 {
			return after, false
		}
		calls, ok := wantMove(e.Net, e.Calls, d.Line, to)
		after.Calls = calls
		return after, ok
	case dropKind:
		if d.Number != "" || peers[d.Line] < 0 {
			return after, false
		}
		after.Calls = nil
		for _, c := range e.Calls {
			if c.In != d.Line && c.Out != d.Line {
				after.Calls = append(after.Calls, c)
			}
		}
		return after, true
	case numberKind:
		after.Plan[d.Line] = d.Number
		if d.Number == e.Plan[d.Line] || !goodPlan(after.Plan) {
			return copied(e), false
		}
		return after, true
	}
	return after, false
}

// wantRun returns what ExRun has to return for a valid exchange.
func wantRun(e impl.Exchange, list []impl.ExDeed) (impl.Exchange, int) {
	many := 0
	for _, d := range list {
		after, done := wantDo(e, d)
		if e = after; done {
			many++
		}
	}
	return e, many
}

// numbersNear returns numbers that the exchange has, those that they begin and that begin with them, others, and texts that are none.
func numbersNear(e impl.Exchange) []string {
	all := []string{"", "0", "1", "2", "3", "33", "000", "4", "0000", "1a", " ", "\xff"}
	for _, number := range e.Plan {
		all = append(all, number, number[:1], number[:len(number)-1], number+"1", number+"00")
	}
	slices.Sort(all)
	return slices.Compact(all)
}

// deedsNear visits deeds of all kinds, of all lines, and with all numbers near those that there are; and deeds of kinds and lines that there are not.
func deedsNear(e impl.Exchange, visit func(d impl.ExDeed)) {
	for _, number := range numbersNear(e) {
		for line := -1; line <= len(e.Plan); line++ {
			for kind := -1; kind <= 3; kind++ {
				visit(impl.ExDeed{Kind: kind, Line: line, Number: number})
			}
		}
	}
	for _, number := range append(slices.Clone(e.Plan), "") {
		for _, wrong := range wrongWires(e.Net) {
			for kind := range 3 {
				visit(impl.ExDeed{Kind: kind, Line: wrong, Number: number})
			}
		}
		for _, wrong := range []int{math.MinInt, -3, 4, 256, 1 << 32, math.MaxInt} {
			visit(impl.ExDeed{Kind: wrong, Line: 0, Number: number})
		}
	}
}

// anyDeed returns a deed near those that can be done; most of them have a text.
func anyDeed(row *numbers, e impl.Exchange) impl.ExDeed {
	near := numbersNear(e)
	d := impl.ExDeed{Kind: row.below(3), Line: row.below(len(e.Plan)), Number: near[row.below(len(near))]}
	switch row.below(12) {
	case 0:
		d.Kind = row.below(7) - 2
	case 1:
		d.Line = row.below(110) - 5
	case 2, 3, 4:
		d.Kind, d.Number = dropKind, ""
	case 5, 6, 7, 8:
		d.Kind, d.Number = callKind, e.Plan[row.below(len(e.Plan))]
	}
	return d
}

// anyDeeds returns so many deeds, those behind the first ones near what these leave.
func anyDeeds(row *numbers, e impl.Exchange, many int) []impl.ExDeed {
	list := []impl.ExDeed{}
	for range many {
		d := anyDeed(row, e)
		list = append(list, d)
		e, _ = wantDo(e, d)
	}
	return list
}

// deedsByText has all texts of deeds that there are.
var deedsByText = sync.OnceValue(func() map[string]impl.ExDeed {
	all := map[string]impl.ExDeed{}
	for line := range lastTextLine + 1 {
		text := strconv.Itoa(line)
		all["drop "+text] = impl.ExDeed{Kind: dropKind, Line: line}
		for _, number := range allNumbers() {
			all["call "+text+" "+number] = impl.ExDeed{Kind: callKind, Line: line, Number: number}
			all["number "+text+" "+number] = impl.ExDeed{Kind: numberKind, Line: line, Number: number}
		}
	}
	return all
})

// textOfDeed returns the text of a deed, "" if it has none.
func textOfDeed(d impl.ExDeed) string {
	for _, text := range []string{"drop " + strconv.Itoa(d.Line), "call " + strconv.Itoa(d.Line) + " " + d.Number, "number " + strconv.Itoa(d.Line) + " " + d.Number} {
		if other, ok := deedsByText()[text]; ok && other == d {
			return text
		}
	}
	return ""
}

// someDeedTexts returns every twentieth text of a deed or so, the short ones among them.
func someDeedTexts() []string {
	texts := []string{"drop 0", "drop 9", "drop 10", "drop 99", "call 0 0", "call 10 33", "call 99 333", "number 0 0", "number 99 12"}
	row := &numbers{state: 97}
	for line := range lastTextLine + 1 {
		for range 4 {
			number := allNumbers()[row.below(84)]
			texts = append(texts, "call "+strconv.Itoa(line)+" "+number, "number "+strconv.Itoa(line)+" "+number)
		}
		texts = append(texts, "drop "+strconv.Itoa(line))
	}
	return texts
}

// textsNear visits texts that differ in one byte from others: with one less, one more, and another one, at all places.
func textsNear(texts []string, visit func(text string)) {
	for _, text := range texts {
		for k := range len(text) + 1 {
			for _, c := range []string{" ", "\n", "\t", "\r", "\x00", "0", "1", "3", "4", "9", "+", "-", ",", "_", "l", "x", "C", "\xff", "\u0663", "\u00a0"} {
				visit(text[:k] + c + text[k:])
				if k < len(text) {
					visit(text[:k] + c + text[k+1:])
				}
			}
			if k < len(text) {
				visit(text[:k] + text[k+1:])
			}
		}
	}
}

// wantNumberOfLine reads a decimal number of one to four digits without zeros ahead.
func wantNumberOfLine(s string) (int, bool) {
	if len(s) < 1 || len(s) > 4 || strings.Trim(s, "0123456789") != "" || s[0] == '0' && s != "0" {
		return 0, false
	}
	n := 0
	for _, digit := range []byte(s) {
		n = 10*n + int(digit-'0')
	}
	return n, true
}

// wantLine returns what ExLine has to return for a valid exchange, in new memory.
func wantLine(e impl.Exchange, line string) (impl.Exchange, string) {
	if d, ok := deedsByText()[line]; ok {
		after, done := wantDo(e, d)
		switch {
		case done:
			return after, "ok"
		case d.Kind != callKind || !among(d.Line, len(e.Plan)):
			return after, "no"
		case !slices.Contains(e.Plan, d.Number):
			return after, "wrong"
		}
		return after, "busy"
	}
	switch line {
	case "night":
		return impl.Exchange{Net: e.Net, Plan: slices.Clone(e.Plan)}, "ok"
	case "calls":
		return copied(e), strconv.Itoa(len(e.Calls))
	case "plan":
		return copied(e), strings.Join(e.Plan, ",")
	}
	for word, ofLines := range map[string][]int{"who ": peersOf(e), "via ": viasOf(e)} {
		digits, asked := strings.CutPrefix(line, word)
		n, ok := wantNumberOfLine(digits)
		if !asked || !ok {
			continue
		}
		if !among(n, len(ofLines)) || ofLines[n] < 0 {
			return copied(e), "none"
		}
		return copied(e), strconv.Itoa(ofLines[n])
	}
	return copied(e), "what"
}

// otherTexts are lines of text that are no deeds, and those that are nothing.
func otherTexts() []string {
	lines := []string{"night", "calls", "plan", "", " ", "  ", "\n", "\t", "\x00", "\xff", "what", "ok", "none", "call", "drop", "number", "call ", "drop ", "who", "via", "who ", "via ", "who x", "via x", "hello", "CALLS", "Night", "plans", "calls calls", "night night", "planner"}
	for _, word := range []string{"who ", "via "} {
		for n := range 14 {
			lines = append(lines, word+strconv.Itoa(n))
		}
		for _, digits := range []string{"99", "100", "999", "9999", "10000", "99999", "00", "01", "07", "001", "0001", "0000", "00001", "010", "-1", "-0", "+0", "+1", "1.", "0x1", "1e1", "1_0", "1 ", " 1", "1 1", "18446744073709551616", "18446744073709551617", "4294967296", "4294967297", strings.Repeat("1", 1000), "\u0661", "1\n"} {
			lines = append(lines, word+digits)
		}
	}
	return lines
}

// anyLine returns a line of text: in most cases a deed, and in some a question, the night, or something else.
func anyLine(row *numbers, e impl.Exchange) string {
	switch row.below(16) {
	case 0:
		return otherTexts()[row.below(len(otherTexts()))]
	case 1:
		return "who " + strconv.Itoa(row.below(len(e.Plan)))
	case 2:
		return "via " + strconv.Itoa(row.below(len(e.Plan)))
	case 3:
		return []string{"plan", "calls", "night", "what"}[row.below(4)]
	}
	return textOfDeed(anyDeed(row, e))
}

// anyLines returns so many lines of text, those behind the first ones near what these leave.
func anyLines(row *numbers, e impl.Exchange, many int) []string {
	lines := []string{}
	for range many {
		line := anyLine(row, e)
		lines = append(lines, line)
		e, _ = wantLine(e, line)
	}
	return lines
}
