package tests

import (
	"math"
	"slices"
	"testing"

	"loop.example/circuitswitching/impl"
)

func TestConstantsOfThreeStages(t *testing.T) {
	if impl.MaxOuter != mostOuter || impl.MaxEach != mostEach || impl.MaxMiddle != mostMiddle {
		t.Fatal(impl.MaxOuter, impl.MaxEach, impl.MaxMiddle)
	}
}

// Promise 54, ShapeValid: with one of everything a network is valid; without middle switches it is not.
func TestNetworksCanBeOneSwitchWide(t *testing.T) {
	if !impl.ShapeValid(impl.Shape{Outer: 1, Each: 1, Middle: 1}) || !impl.ShapeValid(impl.Shape{Outer: mostOuter, Each: mostEach, Middle: mostMiddle}) {
		t.Fatal("valid")
	}
	for _, s := range shapes() {
		if !impl.ShapeValid(s) {
			t.Fatal(s)
		}
		s.Middle = 0
		if impl.ShapeValid(s) {
			t.Fatal(s)
		}
	}
	for _, s := range badShapes() {
		if impl.ShapeValid(s) {
			t.Fatal(s)
		}
	}
}

// Promise 55, CallsValid: without the first one valid calls are valid; with the first one twice they are not; and through each middle switch there are at most as many as outer switches.
func TestCallsCanEnd(t *testing.T) {
	states(func(s impl.Shape, calls []impl.Call) {
		if !impl.CallsValid(s, calls) {
			t.Fatal(s, calls)
		}
		through := [mostMiddle]int{}
		for _, c := range calls {
			through[c.Via]++
		}
		if slices.Max(through[:]) > s.Outer {
			t.Fatal(s, calls)
		}
		if len(calls) == 0 {
			return
		}
		if twice := append(slices.Clone(calls), calls[0]); !impl.CallsValid(s, calls[1:]) || impl.CallsValid(s, twice) {
			t.Fatal(s, calls)
		}
	})
}

// All pairs of calls, and those of one call with the numbers of lines and middle switches that are not there.
func TestCallsValidOfTwoCalls(t *testing.T) {
	for _, s := range []impl.Shape{{Outer: 1, Each: 1, Middle: 1}, {Outer: 2, Each: 2, Middle: 2}, {Outer: 3, Each: 1, Middle: 2}, {Outer: 1, Each: 3, Middle: 3}, {Outer: 2, Each: 3, Middle: 1}} {
		ones := []impl.Call{}
		for in := -1; in <= wiresOf(s); in++ {
			for out := -1; out <= wiresOf(s); out++ {
				for via := -1; via <= s.Middle; via++ {
					ones = append(ones, impl.Call{In: in, Out: out, Via: via})
				}
			}
		}
		for _, one := range ones {
			if calls := []impl.Call{one}; impl.CallsValid(s, calls) != canBe(s, calls) {
				t.Fatal(s, calls)
			}
			for _, other := range ones {
				if calls := []impl.Call{one, other}; impl.CallsValid(s, calls) != canBe(s, calls) {
					t.Fatal(s, calls)
				}
			}
		}
	}
}

// Calls between lines of the same outer switches, by hand.
func TestCallsOfTheSameSwitches(t *testing.T) {
	s := impl.Shape{Outer: 2, Each: 2, Middle: 2}
	first := impl.Call{In: 0, Out: 2, Via: 1}
	cases := []struct {
		other impl.Call
		want  bool
	}{
		{impl.Call{In: 1, Out: 3, Via: 0}, true},
		{impl.Call{In: 1, Out: 3, Via: 1}, false},
		{impl.Call{In: 1, Out: 0, Via: 1}, false},
		{impl.Call{In: 1, Out: 0, Via: 0}, true},
		{impl.Call{In: 2, Out: 3, Via: 1}, false},
		{impl.Call{In: 2, Out: 3, Via: 0}, true},
		{impl.Call{In: 2, Out: 1, Via: 1}, true},
		{impl.Call{In: 3, Out: 0, Via: 1}, true},
		{impl.Call{In: 0, Out: 1, Via: 0}, false},
		{impl.Call{In: 3, Out: 2, Via: 0}, false},
	}
	for _, c := range cases {
		if impl.CallsValid(s, []impl.Call{first, c.other}) != c.want || impl.CallsValid(s, []impl.Call{c.other, first}) != c.want {
			t.Fatal(c)
		}
	}
	if !impl.CallsValid(s, nil) || !impl.CallsValid(s, []impl.Call{}) {
		t.Fatal("no calls")
	}
}

// Promise 13, MiddleFree: through each one that is free a further call is possible, and through no other one; and in a strict network one is free if both lines have no call, whatever calls there are.
func TestInStrictNetworksThereIsAlwaysAFreeMiddleSwitch(t *testing.T) {
	refused := 0
	states(func(s impl.Shape, calls []impl.Call) {
		eachPair(s, func(in int, out int) {
			free := impl.MiddleFree(s, calls, in, out)
			if want := freeMiddles(s, calls, in, out); !slices.Equal(free, want) {
				t.Fatal(s, calls, in, out, free, want)
			}
			for _, via := range free {
				if !impl.CallsValid(s, further(calls, in, out, via)) {
					t.Fatal(s, calls, in, out, via)
				}
			}
			if len(free) == 0 && idle(s, calls, in, out) {
				refused++
				if s.Middle >= 2*s.Each-1 || impl.Strict(s) {
					t.Fatal(s, calls, in, out)
				}
			}
		})
	})
	if refused < 1000 {
		t.Fatal("too few calls that no middle switch is free for", refused)
	}
}

// With one middle switch less than in a strict network, both outer switches can take all of them.
func TestOneMiddleSwitchLessMayBeTooFew(t *testing.T) {
	calls := []impl.Call{{In: 0, Out: 6, Via: 0}, {In: 1, Out: 7, Via: 1}, {In: 6, Out: 3, Via: 2}, {In: 7, Out: 4, Via: 3}}
	s := impl.Shape{Outer: 3, Each: 3, Middle: 4}
	if free := impl.MiddleFree(s, calls, 2, 5); len(free) != 0 {
		t.Fatal(free)
	}
	s.Middle = 5
	if free := impl.MiddleFree(s, calls, 2, 5); !slices.Equal(free, []int{4}) {
		t.Fatal(free)
	}
	if free := impl.MiddleFree(s, calls, 2, 0); !slices.Equal(free, []int{2, 3, 4}) {
		t.Fatal(free)
	}
	if free := impl.MiddleFree(s, calls, 3, 0); !slices.Equal(free, []int{0, 1, 2, 3, 4}) {
		t.Fatal(free)
	}
}

// Promise 56, CallPut: CallDrop of its input leads back; no other call is moved.
func TestACallThatWasPutCanBeDropped(t *testing.T) {
	states(func(s impl.Shape, calls []impl.Call) {
		eachPair(s, func(in int, out int) {
			more, ok := impl.CallPut(s, calls, in, out)
			free := freeMiddles(s, calls, in, out)
			if ok != (len(free) > 0) {
				t.Fatal(s, calls, in, out, ok)
			}
			if !ok {
				sameCalls(t, "not put", s, more, calls)
				return
			}
			sameCalls(t, "put", s, more, further(calls, in, out, free[0]))
			back, ok := impl.CallDrop(s, more, in)
			if !ok {
				t.Fatal(s, more, in)
			}
			sameCalls(t, "dropped again", s, back, calls)
		})
	})
}

// Promise 57, CallDrop: the calls are valid, without one from the input; and it fails only if there is none.
func TestWhoHangsUpIsFree(t *testing.T) {
	states(func(s impl.Shape, calls []impl.Call) {
		drop := func(in int) {
			less, ok := impl.CallDrop(s, calls, in)
			want := []impl.Call{}
			for _, c := range calls {
				if c.In != in {
					want = append(want, c)
				}
			}
			if ok != (len(want) < len(calls)) || !impl.CallsValid(s, less) {
				t.Fatal(s, calls, in, less, ok)
			}
			sameCalls(t, "dropped", s, less, want)
		}
		for in := range wiresOf(s) {
			drop(in)
		}
		for _, wrong := range wrongWires(s) {
			drop(wrong)
		}
	})
}

// Promise 58, Strict: with a middle switch more, as far as there may be one, a strict network is strict; and it has enough.
func TestStrictNetworksHaveEnough(t *testing.T) {
	for _, s := range shapes() {
		if impl.Strict(s) != (s.Middle >= []int{0, 1, 3, 5}[s.Each]) || impl.Enough(s) != (s.Middle >= s.Each) {
			t.Fatal(s, impl.Strict(s), impl.Enough(s))
		}
		if impl.Strict(s) && !impl.Enough(s) {
			t.Fatal(s)
		}
		if more := (impl.Shape{Outer: s.Outer, Each: s.Each, Middle: s.Middle + 1}); impl.Strict(s) && s.Middle < mostMiddle && !impl.Strict(more) {
			t.Fatal(more)
		}
	}
	for _, s := range badShapes() {
		if impl.Strict(s) || impl.Enough(s) {
			t.Fatal(s, impl.Strict(s), impl.Enough(s))
		}
	}
}

// differing returns at how many places of two lists of the same length the middle switches are different ones.
func differing(before []impl.Call, after []impl.Call) int {
	many := 0
	for k, c := range before {
		if c.Via != after[k].Via {
			many++
		}
	}
	return many
}

// Promise 15, CallMove: if both lines have no call, the further call is there, and all others have the same lines as before; none is moved if a middle switch is free; and no more than one less than twice the outer switches are.
func TestWithEnoughMiddleSwitchesEveryCallFindsAWay(t *testing.T) {
	lengths := [2 * mostOuter]int{}
	look := func(s impl.Shape, calls []impl.Call) {
		if !impl.Enough(s) {
			return
		}
		eachPair(s, func(in int, out int) {
			after, ok := impl.CallMove(s, calls, in, out)
			want, wantOk := wantMove(s, calls, in, out)
			if ok != wantOk || ok != idle(s, calls, in, out) || !impl.CallsValid(s, after) {
				t.Fatal(s, calls, in, out, after, ok)
			}
			sameCalls(t, "moved", s, after, want)
			if !ok {
				sameCalls(t, "not moved", s, after, calls)
				return
			}
			for k, c := range append(slices.Clone(calls), impl.Call{In: in, Out: out}) {
				if after[k].In != c.In || after[k].Out != c.Out {
					t.Fatal(s, calls, in, out, after)
				}
			}
			many := differing(calls, after)
			if many > 2*s.Outer-1 || many > 0 && len(freeMiddles(s, calls, in, out)) > 0 || many > 0 && impl.Strict(s) {
				t.Fatal(s, calls, in, out, after)
			}
			lengths[many]++
		})
	}
	states(look)
	row := &numbers{state: 47}
	walk(row, impl.Shape{Outer: 4, Each: 2, Middle: 2}, 4000, look)
	walk(row, impl.Shape{Outer: 4, Each: 3, Middle: 3}, 1000, look)
	// A chain has no more than 5 calls: it reaches neither the outer switch of the input, nor the one to which that has its call through b.
	for many := range 2*mostOuter - 2 {
		if lengths[many] < 50 {
			t.Fatal("too few chains of", many, "calls", lengths)
		}
	}
}

// The longest chain, by hand: from the output switch 0 to the input switch 3, there and back.
func TestTheLongestChain(t *testing.T) {
	s := impl.Shape{Outer: 4, Each: 2, Middle: 2}
	calls := []impl.Call{{In: 0, Out: 6, Via: 1}, {In: 2, Out: 0, Via: 0}, {In: 3, Out: 2, Via: 1}, {In: 4, Out: 3, Via: 0}, {In: 5, Out: 4, Via: 1}, {In: 6, Out: 5, Via: 0}}
	want := []impl.Call{{In: 0, Out: 6, Via: 1}, {In: 2, Out: 0, Via: 1}, {In: 3, Out: 2, Via: 0}, {In: 4, Out: 3, Via: 1}, {In: 5, Out: 4, Via: 0}, {In: 6, Out: 5, Via: 1}, {In: 1, Out: 1, Via: 0}}
	after, ok := impl.CallMove(s, calls, 1, 1)
	if !ok || impl.CallsMoved(calls, after) != 5 {
		t.Fatal(after, ok)
	}
	sameCalls(t, "the longest chain", s, after, want)
	slices.Reverse(calls)
	slices.Reverse(want[:6])
	after, ok = impl.CallMove(s, calls, 1, 1)
	if !ok {
		t.Fatal(calls)
	}
	sameCalls(t, "in another order", s, after, want)
}

// Of several middle switches that an outer switch does not use, a and b are the first ones, by hand.
func TestChainsTakeTheFirstMiddleSwitches(t *testing.T) {
	s := impl.Shape{Outer: 3, Each: 3, Middle: 3}
	cases := []struct {
		calls []impl.Call
		want  []impl.Call
	}{
		// From the input's switch 0 and 2 are not used, to the output's only 1.
		{[]impl.Call{{In: 1, Out: 8, Via: 1}, {In: 3, Out: 1, Via: 0}, {In: 6, Out: 2, Via: 2}}, []impl.Call{{In: 1, Out: 8, Via: 1}, {In: 3, Out: 1, Via: 1}, {In: 6, Out: 2, Via: 2}, {In: 0, Out: 0, Via: 0}}},
		// From the input's switch only 2 is not used, to the output's 0 and 1.
		{[]impl.Call{{In: 1, Out: 3, Via: 0}, {In: 2, Out: 6, Via: 1}, {In: 4, Out: 2, Via: 2}}, []impl.Call{{In: 1, Out: 3, Via: 0}, {In: 2, Out: 6, Via: 1}, {In: 4, Out: 2, Via: 0}, {In: 0, Out: 0, Via: 2}}},
		// The call that is moved meets another one from its outer switch.
		{[]impl.Call{{In: 1, Out: 3, Via: 0}, {In: 2, Out: 6, Via: 1}, {In: 4, Out: 2, Via: 2}, {In: 5, Out: 7, Via: 0}}, []impl.Call{{In: 1, Out: 3, Via: 0}, {In: 2, Out: 6, Via: 1}, {In: 4, Out: 2, Via: 0}, {In: 5, Out: 7, Via: 2}, {In: 0, Out: 0, Via: 2}}},
	}
	for _, c := range cases {
		after, ok := impl.CallMove(s, c.calls, 0, 0)
		if !ok {
			t.Fatal(c.calls)
		}
		sameCalls(t, "moved", s, after, c.want)
	}
}

// Calls between lines of one outer switch on each side: there each call has a middle switch of its own, and none is ever moved.
func TestOneOuterSwitch(t *testing.T) {
	for each := 1; each <= mostEach; each++ {
		s := impl.Shape{Outer: 1, Each: each, Middle: each}
		for _, p := range permsOf(each) {
			calls, ok := impl.RouteAll(s, p)
			if !ok || len(calls) != each {
				t.Fatal(s, p, calls, ok)
			}
			for in, c := range calls {
				if c != (impl.Call{In: in, Out: p[in], Via: in}) {
					t.Fatal(s, p, calls)
				}
			}
		}
	}
}

// Networks with too few middle switches: nothing is moved, also if a middle switch is free.
func TestTooFewMiddleSwitches(t *testing.T) {
	someStates(20, func(s impl.Shape, calls []impl.Call) {
		if s.Middle >= s.Each {
			return
		}
		eachPair(s, func(in int, out int) {
			if after, ok := impl.CallMove(s, calls, in, out); ok || len(after) != 0 {
				t.Fatal(s, calls, in, out, after, ok)
			}
		})
		for _, p := range [][]int{ascending(wiresOf(s)), descending(wiresOf(s)), nil} {
			if after, ok := impl.RouteAll(s, p); ok || len(after) != 0 {
				t.Fatal(s, p, after, ok)
			}
		}
	})
}

// Promise 59, CallsMoved: from a list to itself nothing is moved; and in the other direction as many are.
func TestWhoIsNotMovedStays(t *testing.T) {
	row := &numbers{state: 37}
	for range 5000 {
		before, after := make([]impl.Call, row.below(15)), make([]impl.Call, row.below(15))
		for _, calls := range [][]impl.Call{before, after} {
			for k := range calls {
				calls[k] = impl.Call{In: row.below(3) - 1, Out: row.below(3) - 1, Via: row.below(4) - 1}
			}
		}
		both := min(len(before), len(after))
		many := differing(before[:both], after[:both])
		if impl.CallsMoved(before, after) != many || impl.CallsMoved(after, before) != many || impl.CallsMoved(before, before) != 0 {
			t.Fatal(before, after, many, impl.CallsMoved(before, after))
		}
	}
	states(func(s impl.Shape, calls []impl.Call) {
		if impl.CallsMoved(calls, calls) != 0 || impl.CallsMoved(calls, nil) != 0 || impl.CallsMoved(nil, calls) != 0 {
			t.Fatal(s, calls)
		}
	})
}

// Only places that both lists have count, and there only the middle switches, valid calls or not.
func TestCallsMovedOfSome(t *testing.T) {
	one := []impl.Call{{In: 0, Out: 1, Via: 2}, {In: 1, Out: 0, Via: 3}}
	cases := []struct {
		before []impl.Call
		after  []impl.Call
		want   int
	}{
		{nil, nil, 0},
		{one, one[:1], 0},
		{one, []impl.Call{{In: 9, Out: 9, Via: 2}, {In: -1, Out: -1, Via: 3}}, 0},
		{one, []impl.Call{{In: 0, Out: 1, Via: 3}}, 1},
		{one, []impl.Call{{In: 1, Out: 0, Via: 3}, {In: 0, Out: 1, Via: 2}}, 2},
		{one, []impl.Call{{Via: math.MinInt}, {Via: math.MaxInt}, {Via: 4}}, 2},
		{make([]impl.Call, 1000), slices.Repeat([]impl.Call{{Via: 1}}, 999), 999},
	}
	for _, c := range cases {
		if impl.CallsMoved(c.before, c.after) != c.want || impl.CallsMoved(c.after, c.before) != c.want {
			t.Fatal(c, impl.CallsMoved(c.before, c.after))
		}
	}
}

// Promise 14, Enough: RouteAll of the lines turned round has a call for every line, exactly if there are enough middle switches.
func TestWithEnoughMiddleSwitchesEverythingCanBeConnected(t *testing.T) {
	for _, s := range shapes() {
		calls, ok := impl.RouteAll(s, descending(wiresOf(s)))
		if ok != impl.Enough(s) || ok != (s.Middle >= s.Each) || ok && len(calls) != wiresOf(s) || !ok && len(calls) != 0 {
			t.Fatal(s, calls, ok)
		}
	}
}

// Promise 16, RouteAll: the calls are valid, one from each input to the output that the list tells; and they are those of CallMove, one after the other.
func TestEveryPermutationCanBeConnected(t *testing.T) {
	route := func(s impl.Shape, p []int) {
		calls, ok := impl.RouteAll(s, p)
		if !ok || len(calls) != len(p) || !impl.CallsValid(s, calls) || !canBe(s, calls) {
			t.Fatal(s, p, calls, ok)
		}
		want := []impl.Call{}
		for in, out := range p {
			if calls[in].In != in || calls[in].Out != out {
				t.Fatal(s, p, calls)
			}
			want, _ = wantMove(s, want, in, out)
		}
		sameCalls(t, "routed", s, calls, want)
	}
	row := &numbers{state: 41}
	for _, s := range shapes() {
		switch wires := wiresOf(s); {
		case s.Middle < s.Each:
		case wires <= 6:
			for _, p := range permsOf(wires) {
				route(s, p)
			}
		default:
			for range 1500 {
				route(s, row.perm(wires))
			}
		}
	}
}

func TestNoRoutesOfOtherLists(t *testing.T) {
	for _, s := range shapes() {
		for _, p := range badRoutes(s) {
			if calls, ok := impl.RouteAll(s, p); ok || len(calls) != 0 {
				t.Fatal(s, p, calls, ok)
			}
		}
	}
}

// noneOf fails the test if something is returned for a network or for calls that are not valid.
func noneOf(t *testing.T, s impl.Shape, calls []impl.Call, in int, out int) {
	t.Helper()
	if impl.CallsValid(s, calls) {
		t.Fatal(s, calls)
	}
	if free := impl.MiddleFree(s, calls, in, out); len(free) != 0 {
		t.Fatal(s, calls, in, out, free)
	}
	if more, ok := impl.CallPut(s, calls, in, out); ok || len(more) != 0 {
		t.Fatal(s, calls, in, out, more)
	}
	if less, ok := impl.CallDrop(s, calls, in); ok || len(less) != 0 {
		t.Fatal(s, calls, in, less)
	}
	if after, ok := impl.CallMove(s, calls, in, out); ok || len(after) != 0 {
		t.Fatal(s, calls, in, out, after)
	}
}

func TestNetworksThatAreNotValid(t *testing.T) {
	lists := [][]impl.Call{nil, {{In: 0, Out: 0, Via: 0}}, {{In: 1, Out: 1, Via: 0}}, {{In: 0, Out: 1, Via: 0}, {In: 3, Out: 3, Via: 1}}}
	for _, s := range badShapes() {
		for _, calls := range lists {
			for _, in := range []int{math.MinInt, -1, 0, 1, 2, math.MaxInt} {
				noneOf(t, s, calls, in, 0)
				noneOf(t, s, calls, 0, in)
			}
		}
		for length := range 14 {
			if calls, ok := impl.RouteAll(s, ascending(length)); ok || len(calls) != 0 {
				t.Fatal(s, length, calls, ok)
			}
		}
	}
}

func TestCallsThatAreNotValid(t *testing.T) {
	tried := 0
	badCalls(func(s impl.Shape, calls []impl.Call) {
		tried++
		noneOf(t, s, calls, -1, 0)
		noneOf(t, s, calls, calls[0].In, calls[0].Out)
		for line := range wiresOf(s) {
			noneOf(t, s, calls, line, wiresOf(s)-1-line)
		}
		noneOf(t, s, calls, 0, wiresOf(s))
	})
	if tried < 1000 {
		t.Fatal("too few calls that are not valid", tried)
	}
}

// callLists returns what the functions return that return calls.
func callLists(s impl.Shape, calls []impl.Call, in int, out int) [][]impl.Call {
	put, _ := impl.CallPut(s, calls, in, out)
	dropped, _ := impl.CallDrop(s, calls, in)
	moved, _ := impl.CallMove(s, calls, in, out)
	return [][]impl.Call{put, dropped, moved}
}

// apartFrom fails the test if the results for calls share memory with these or with each other, or if the calls, or the memory behind them, were written to.
func apartFrom(t *testing.T, s impl.Shape, calls []impl.Call, in int, out int) {
	t.Helper()
	calls = callsWithRoom(calls)
	before := slices.Clone(calls[:cap(calls)])
	impl.CallsValid(s, calls)
	impl.CallsMoved(calls, calls[:len(calls)/2])
	free := impl.MiddleFree(s, calls, in, out)
	lists := append(callLists(s, calls, in, out), callLists(s, calls, in, out)...)
	sameCalls(t, "written to", s, calls[:cap(calls)], before)
	for k := range lists {
		others := [][]impl.Call{}
		for _, list := range lists[k+1:] {
			others = append(others, slices.Clone(list))
		}
		overwriteCalls(lists[k])
		for m, list := range lists[k+1:] {
			sameCalls(t, "shared with another result", s, list, others[m])
		}
	}
	overwrite(free)
	sameCalls(t, "shared with the argument", s, calls[:cap(calls)], before)
	if again := impl.MiddleFree(s, calls, in, out); !slices.Equal(again, freeMiddles(s, calls, in, out)) {
		t.Fatal(s, calls, in, out, again)
	}
}

func TestCallsAreNotWrittenToAndNotShared(t *testing.T) {
	pairs := func(s impl.Shape, calls []impl.Call) {
		for in := -1; in <= wiresOf(s); in++ {
			for _, out := range []int{0, in, wiresOf(s) - 1 - in, wiresOf(s)} {
				apartFrom(t, s, calls, in, out)
			}
		}
	}
	for _, s := range shapes() {
		pairs(s, nil)
	}
	someStates(40, pairs)
}

func TestCallsThatAreNotValidAreNotWrittenTo(t *testing.T) {
	try := func(s impl.Shape, calls []impl.Call) {
		calls = callsWithRoom(calls)
		before := slices.Clone(calls[:cap(calls)])
		callLists(s, calls, 0, 0)
		callLists(s, calls, wiresOf(s)-1, 0)
		impl.CallsValid(s, calls)
		impl.MiddleFree(s, calls, 0, 0)
		sameCalls(t, "written to", s, calls[:cap(calls)], before)
	}
	badCalls(try)
	for _, s := range badShapes() {
		try(s, []impl.Call{{In: 0, Out: 1, Via: 0}, {In: 3, Out: 3, Via: 1}})
	}
}

func TestRoutesAreNewMemory(t *testing.T) {
	row := &numbers{state: 43}
	for _, s := range shapes() {
		for _, p := range append(badRoutes(s), ascending(wiresOf(s)), row.perm(wiresOf(s)), row.perm(wiresOf(s))) {
			p = withRoom(p)
			before := slices.Clone(p[:cap(p)])
			one, _ := impl.RouteAll(s, p)
			other, _ := impl.RouteAll(s, p)
			want := slices.Clone(other)
			overwriteCalls(one)
			again, _ := impl.RouteAll(s, p)
			sameCalls(t, "shared with another result", s, other, want)
			sameCalls(t, "kept", s, again, want)
			if !slices.Equal(p[:cap(p)], before) {
				t.Fatal(s, before, p[:cap(p)])
			}
		}
	}
}
