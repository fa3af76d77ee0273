package tests

import (
	"math"
	"slices"
	"testing"

	"loop.example/circuitswitching/impl"
)

// mostLines and mostComps are impl.MaxLines and impl.MaxComps written out, so that a changed constant is noticed.
const (
	mostLines = 6
	mostComps = 20
)

// pairsOf returns all comparators of so many lines, neighbours first.
func pairsOf(lines int) []impl.Comp {
	pairs := []impl.Comp{}
	for distance := 1; distance < lines; distance++ {
		for a := 0; a+distance < lines; a++ {
			pairs = append(pairs, impl.Comp{A: a, B: a + distance})
		}
	}
	return pairs
}

// countingNets visits all networks with at most so many comparators, each one of some pairs.
func countingNets(lines int, pairs []impl.Comp, comps int, visit func(lines int, net []impl.Comp)) {
	net := []impl.Comp{}
	var grow func()
	grow = func() {
		visit(lines, slices.Clone(net))
		if len(net) == comps {
			return
		}
		for _, c := range pairs {
			net = append(net, c)
			grow()
			net = net[:len(net)-1]
		}
	}
	grow()
}

// builtNets visits the three networks that sort, for all numbers of lines.
func builtNets(visit func(lines int, net []impl.Comp)) {
	for lines := 1; lines <= mostLines; lines++ {
		for _, net := range [][]impl.Comp{impl.BubbleNet(lines), impl.BrickNet(lines), impl.MergeNet(lines)} {
			visit(lines, net)
		}
	}
}

// randomNet returns a network of some comparators, one after the other.
func randomNet(row *numbers, lines int, pairs []impl.Comp) []impl.Comp {
	net := []impl.Comp{}
	if len(pairs) > 0 {
		for range row.below(mostComps + 1) {
			net = append(net, pairs[row.below(len(pairs))])
		}
	}
	return net
}

// neighbourNets visits valid networks that compare only neighbours, those that sort without each single comparator included.
func neighbourNets(visit func(lines int, net []impl.Comp)) {
	comps := []int{0, 2, 6, 6, 4, 3, 3}
	row := &numbers{state: 5}
	for lines := 1; lines <= mostLines; lines++ {
		pairs := pairsOf(lines)[:lines-1]
		countingNets(lines, pairs, comps[lines], visit)
		for range 300 {
			visit(lines, randomNet(row, lines, pairs))
		}
		for _, net := range [][]impl.Comp{impl.BubbleNet(lines), impl.BrickNet(lines)} {
			visit(lines, net)
			without(net, func(_ int, less []impl.Comp) { visit(lines, less) })
		}
	}
}

// nets visits valid networks of all numbers of lines: without comparators, few ones, as many as there may be, sorting and just not.
func nets(visit func(lines int, net []impl.Comp)) {
	comps := []int{0, 3, 20, 5, 3, 2, 2}
	row := &numbers{state: 3}
	for lines := 1; lines <= mostLines; lines++ {
		countingNets(lines, pairsOf(lines), comps[lines], visit)
		for range 300 {
			visit(lines, randomNet(row, lines, pairsOf(lines)))
		}
	}
	neighbourNets(visit)
	builtNets(func(lines int, net []impl.Comp) {
		visit(lines, net)
		without(net, func(_ int, less []impl.Comp) { visit(lines, less) })
		for _, c := range pairsOf(lines) {
			if len(net) < mostComps {
				visit(lines, append(slices.Clone(net), c))
				visit(lines, append([]impl.Comp{c}, net...))
			}
		}
	})
}

// without visits a network without each single one of its comparators.
func without(net []impl.Comp, visit func(k int, less []impl.Comp)) {
	for k := range net {
		visit(k, slices.Delete(slices.Clone(net), k, k+1))
	}
}

// badNets visits networks that are not valid.
func badNets(visit func(lines int, net []impl.Comp)) {
	for _, lines := range []int{math.MinInt, -7, -1, 0, mostLines + 1, mostLines + 2, 20, 64, 1 << 40, math.MaxInt} {
		visit(lines, nil)
		visit(lines, []impl.Comp{})
		visit(lines, []impl.Comp{{A: 0, B: 1}})
		visit(lines, impl.BrickNet(mostLines))
	}
	for lines := 1; lines <= mostLines; lines++ {
		for _, c := range []impl.Comp{{}, {A: 1}, {A: lines - 1, B: lines - 1}, {A: lines - 1, B: lines}, {A: 0, B: lines}, {A: -1, B: 0}, {A: -1, B: lines - 1}, {A: lines - 1, B: 0}, {A: lines, B: lines + 1}, {A: math.MinInt, B: 0}, {A: 0, B: math.MaxInt}, {A: math.MaxInt, B: math.MinInt}, {A: math.MaxInt, B: math.MaxInt}} {
			for k := range len(impl.BubbleNet(lines)) + 1 {
				visit(lines, slices.Insert(impl.BubbleNet(lines), k, c))
			}
		}
		for _, c := range pairsOf(lines) {
			for _, comps := range []int{mostComps + 1, mostComps + 2, 200} {
				visit(lines, slices.Repeat([]impl.Comp{c}, comps))
			}
		}
	}
}

// behind returns, by the words of the document, the numbers behind a network.
func behind(net []impl.Comp, list []int) []int {
	out := slices.Clone(list)
	for _, c := range net {
		if out[c.A] > out[c.B] {
			out = exchanged(out, c.A, c.B)
		}
	}
	return out
}

// sortsAll reports whether a network sorts all of some lists.
func sortsAll(net []impl.Comp, lists [][]int) bool {
	for _, list := range lists {
		if !slices.IsSorted(behind(net, list)) {
			return false
		}
	}
	return true
}

// bitsOf returns the bits of a number, that of the value 1 first.
func bitsOf(n int, lines int) []int {
	bits := []int{}
	for range lines {
		bits = append(bits, n%2)
		n /= 2
	}
	return bits
}

// allBits returns the bits of all numbers in their order.
func allBits(lines int) [][]int {
	all := [][]int{}
	for n := range int(math.Pow(2, float64(lines))) {
		all = append(all, bitsOf(n, lines))
	}
	return all
}

// compsWithRoom returns the same comparators with other ones in the spare memory behind them.
func compsWithRoom(net []impl.Comp) []impl.Comp {
	all := append(slices.Clone(net), impl.Comp{A: 0, B: 1}, impl.Comp{A: 55, B: 66})
	return all[:len(net)]
}

// netFunctions are all functions that take a network and a number of lines.
func netFunctions(lines int, net []impl.Comp) {
	impl.NetValid(lines, net)
	impl.NetSorts(lines, net)
	impl.BitFault(lines, net)
	impl.Neighbours(lines, net)
	impl.SortsTurned(lines, net)
	impl.NetDepth(lines, net)
	impl.NetUseless(lines, net)
}

// sameNet fails the test if a network is not just the one that is wanted.
func sameNet(t *testing.T, what string, net []impl.Comp, want []impl.Comp) {
	t.Helper()
	if !slices.Equal(net, want) {
		t.Fatalf("%s: %v, not %v", what, net, want)
	}
}
