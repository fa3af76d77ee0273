package tests

import (
	"math"
	"slices"
	"testing"

	"loop.example/circuitswitching/impl"
)

// impl.MaxOuter, impl.MaxEach and impl.MaxMiddle written out, so that a changed constant is noticed.
const (
	mostOuter  = 4
	mostEach   = 3
	mostMiddle = 5
	mostWires  = mostOuter * mostEach
)

// shapes returns all valid networks of three stages.
func shapes() []impl.Shape {
	all := []impl.Shape{}
	for outer := 1; outer <= mostOuter; outer++ {
		for each := 1; each <= mostEach; each++ {
			for middle := 1; middle <= mostMiddle; middle++ {
				all = append(all, impl.Shape{Outer: outer, Each: each, Middle: middle})
			}
		}
	}
	return all
}

// badShapes returns networks of which one or more of the numbers are out of their bounds, also such of which a product or a double is in bounds again.
func badShapes() []impl.Shape {
	bad := []impl.Shape{{}, {Outer: -2, Each: -2, Middle: 2}, {Outer: -1, Each: -1, Middle: -1}, {Outer: 6, Each: 1, Middle: 1}, {Outer: 1 << 32, Each: 1 << 32, Middle: 1}}
	wrong := []int{math.MinInt, math.MinInt + 1, -5, -1, 0, 6, 7, 100, 1<<32 + 1, 1 << 62, 1<<62 + 1, math.MaxInt}
	for _, s := range shapes() {
		for _, n := range wrong {
			bad = append(bad, impl.Shape{Outer: n, Each: s.Each, Middle: s.Middle}, impl.Shape{Outer: s.Outer, Each: n, Middle: s.Middle}, impl.Shape{Outer: s.Outer, Each: s.Each, Middle: n})
		}
		bad = append(bad, impl.Shape{Outer: mostOuter + 1, Each: s.Each, Middle: s.Middle}, impl.Shape{Outer: s.Outer, Each: mostEach + 1, Middle: s.Middle}, impl.Shape{Outer: s.Outer, Each: s.Each, Middle: mostMiddle + 1})
	}
	return bad
}

// wiresOf returns how many inputs, and how many outputs, a network has.
func wiresOf(s impl.Shape) int {
	return s.Outer * s.Each
}

// wrongWires returns numbers of lines that a network does not have.
func wrongWires(s impl.Shape) []int {
	wires := wiresOf(s)
	return []int{math.MinInt, math.MinInt + 1, -wires - 1, -wires, -2, -1, wires, wires + 1, 2 * wires, 64, 1 << 32, math.MaxInt}
}

// among reports whether a number is that of one of so many things.
func among(n int, many int) bool {
	return n >= 0 && n < many
}

// canBe reports whether calls are possible at the same time in a network that is known to be valid: it marks every line and every link that they take.
func canBe(s impl.Shape, calls []impl.Call) bool {
	var ins, outs [mostWires]bool
	var up, down [mostOuter][mostMiddle]bool
	for _, c := range calls {
		if !among(c.In, wiresOf(s)) || !among(c.Out, wiresOf(s)) || !among(c.Via, s.Middle) {
			return false
		}
		for _, mark := range []*bool{&ins[c.In], &outs[c.Out], &up[c.In/s.Each][c.Via], &down[c.Out/s.Each][c.Via]} {
			if *mark {
				return false
			}
			*mark = true
		}
	}
	return true
}

// further returns calls with one more behind them, in new memory.
func further(calls []impl.Call, in int, out int, via int) []impl.Call {
	return append(slices.Clone(calls), impl.Call{In: in, Out: out, Via: via})
}

// freeMiddles returns the middle switches through which a further call can go.
func freeMiddles(s impl.Shape, calls []impl.Call, in int, out int) []int {
	free := []int{}
	for via := range s.Middle {
		if canBe(s, further(calls, in, out, via)) {
			free = append(free, via)
		}
	}
	return free
}

// idle reports whether there are both lines, and none of them has a call.
func idle(s impl.Shape, calls []impl.Call, in int, out int) bool {
	for _, c := range calls {
		if c.In == in || c.Out == out {
			return false
		}
	}
	return among(in, wiresOf(s)) && among(out, wiresOf(s))
}

// leastWithout returns the first middle switch through which no call goes of those from, or to, an outer switch.
func leastWithout(s impl.Shape, calls []impl.Call, outer int, isFrom bool) int {
	for via := range s.Middle {
		uses := func(c impl.Call) bool {
			if isFrom {
				return c.Via == via && c.In/s.Each == outer
			}
			return c.Via == via && c.Out/s.Each == outer
		}
		if !slices.ContainsFunc(calls, uses) {
			return via
		}
	}
	return -1
}

// wantMove returns what CallMove has to return for valid calls of a network with enough middle switches. It does not follow the chain call by call: it marks all outer switches that calls through the two middle switches join with that of the output, and exchanges the two middle switches for all calls there.
func wantMove(s impl.Shape, calls []impl.Call, in int, out int) ([]impl.Call, bool) {
	if !idle(s, calls, in, out) {
		return slices.Clone(calls), false
	}
	if free := freeMiddles(s, calls, in, out); len(free) > 0 {
		return further(calls, in, out, free[0]), true
	}
	a, b := leastWithout(s, calls, in/s.Each, true), leastWithout(s, calls, out/s.Each, false)
	var from, to [mostOuter]bool
	to[out/s.Each] = true
	for range 2 * mostOuter {
		for _, c := range calls {
			if (c.Via == a || c.Via == b) && (from[c.In/s.Each] || to[c.Out/s.Each]) {
				from[c.In/s.Each], to[c.Out/s.Each] = true, true
			}
		}
	}
	all := further(calls, in, out, a)
	for k, c := range calls {
		if to[c.Out/s.Each] && c.Via == a {
			all[k].Via = b
		}
		if to[c.Out/s.Each] && c.Via == b {
			all[k].Via = a
		}
	}
	return all, true
}

// allStates visits all valid calls of a network, each in the order of their inputs.
func allStates(s impl.Shape, visit func(s impl.Shape, calls []impl.Call)) {
	calls := []impl.Call{}
	var grow func(in int)
	grow = func(in int) {
		if in == wiresOf(s) {
			visit(s, slices.Clone(calls))
			return
		}
		grow(in + 1)
		for out := range wiresOf(s) {
			for via := range s.Middle {
				calls = append(calls, impl.Call{In: in, Out: out, Via: via})
				if canBe(s, calls) {
					grow(in + 1)
				}
				calls = calls[:len(calls)-1]
			}
		}
	}
	grow(0)
}

// walk visits valid calls of a network, in all kinds of orders: again and again a call is put where there is room for it, and now and then one is dropped.
func walk(row *numbers, s impl.Shape, steps int, visit func(s impl.Shape, calls []impl.Call)) {
	calls := []impl.Call{}
	for range steps {
		if len(calls) > 0 && row.below(12) == 0 {
			k := row.below(len(calls))
			calls = slices.Delete(slices.Clone(calls), k, k+1)
		}
		for range 6 {
			if more := further(calls, row.below(wiresOf(s)), row.below(wiresOf(s)), row.below(s.Middle)); canBe(s, more) {
				calls = more
			}
		}
		visit(s, slices.Clone(calls))
	}
}

// someStates visits valid calls of all networks (walk).
func someStates(steps int, visit func(s impl.Shape, calls []impl.Call)) {
	row := &numbers{state: 31}
	for _, s := range shapes() {
		walk(row, s, steps, visit)
	}
}

// states visits all valid calls of small networks, and some of all networks.
func states(visit func(s impl.Shape, calls []impl.Call)) {
	for _, s := range shapes() {
		if wiresOf(s) <= 3 && s.Middle <= 3 || s.Outer == 2 && s.Each == 2 && s.Middle <= 2 {
			allStates(s, visit)
		}
	}
	someStates(60, visit)
}

// eachPair visits all pairs of an input and an output of a network, and of lines that it does not have.
func eachPair(s impl.Shape, visit func(in int, out int)) {
	for in := -1; in <= wiresOf(s); in++ {
		for out := -1; out <= wiresOf(s); out++ {
			visit(in, out)
		}
	}
	for _, wrong := range wrongWires(s) {
		visit(wrong, 0)
		visit(0, wrong)
		visit(wrong, wrong)
	}
}

// badCalls visits calls of all networks that are not possible, or not at the same time.
func badCalls(visit func(s impl.Shape, calls []impl.Call)) {
	try := func(s impl.Shape, calls []impl.Call) {
		if !canBe(s, calls) {
			visit(s, calls)
		}
	}
	someStates(6, func(s impl.Shape, calls []impl.Call) {
		for k := range calls {
			spoil := func(c impl.Call) {
				bad := slices.Clone(calls)
				bad[k] = c
				try(s, bad)
			}
			c := calls[k]
			for _, wrong := range wrongWires(s) {
				spoil(impl.Call{In: wrong, Out: c.Out, Via: c.Via})
				spoil(impl.Call{In: c.In, Out: wrong, Via: c.Via})
			}
			for _, wrong := range []int{math.MinInt, -s.Middle, -1, s.Middle, s.Middle + 1, mostMiddle, mostMiddle + 1, 1 << 32, math.MaxInt} {
				spoil(impl.Call{In: c.In, Out: c.Out, Via: wrong})
			}
			for _, other := range calls {
				spoil(other)
				spoil(impl.Call{In: other.In, Out: c.Out, Via: c.Via})
				spoil(impl.Call{In: c.In, Out: other.Out, Via: c.Via})
				spoil(impl.Call{In: c.In, Out: c.Out, Via: other.Via})
			}
			try(s, append(slices.Clone(calls), c))
		}
	})
	for _, s := range shapes() {
		try(s, make([]impl.Call, 1000))
	}
}

// badRoutes returns lists that do not have each line of a network once.
func badRoutes(s impl.Shape) [][]int {
	wires := wiresOf(s)
	bad := [][]int{nil, make([]int, 1000)}
	for length := 1; length <= mostWires+2; length++ {
		if length != wires {
			bad = append(bad, ascending(length), descending(length))
		}
	}
	for _, p := range [][]int{ascending(wires), descending(wires)} {
		for place := range p {
			for _, n := range append(wrongWires(s), p[(place+1)%wires], p[(place+wires-1)%wires]) {
				if n != p[place] {
					q := slices.Clone(p)
					q[place] = n
					bad = append(bad, q)
				}
			}
		}
	}
	return bad
}

// sameCalls fails the test if calls are not what is wanted.
func sameCalls(t *testing.T, what string, s impl.Shape, calls []impl.Call, want []impl.Call) {
	t.Helper()
	if !slices.Equal(calls, want) {
		t.Fatal(what, s, calls, want)
	}
}

// callsWithRoom returns the same calls with other ones in the spare memory behind them.
func callsWithRoom(calls []impl.Call) []impl.Call {
	all := append(slices.Clone(calls), impl.Call{In: 101, Out: 102, Via: 103}, impl.Call{In: 104, Out: 105, Via: 106}, impl.Call{In: 107, Out: 108, Via: 109})
	return all[:len(calls)]
}

// overwriteCalls fills all memory of a list of calls.
func overwriteCalls(calls []impl.Call) {
	for k := range calls[:cap(calls)] {
		calls[:cap(calls)][k] = impl.Call{In: -77, Out: -78, Via: -79}
	}
}
