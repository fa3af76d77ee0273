package tests

import (
	"math"
	"slices"
	"testing"

	"loop.example/circuitswitching/impl"
)

func TestConstantsOfSorting(t *testing.T) {
	if impl.MaxLines != 6 || impl.MaxComps != 20 {
		t.Fatal(impl.MaxLines, impl.MaxComps)
	}
}

// Promise 44, NetValid: comparators can be left out; with one that compares a line with itself a network is not valid.
func TestNetValid(t *testing.T) {
	nets(func(lines int, net []impl.Comp) {
		if !impl.NetValid(lines, net) || len(net) > 0 && !impl.NetValid(lines, net[1:]) {
			t.Fatal(lines, net)
		}
		if len(net) == mostComps {
			return
		}
		for line := range lines {
			for k := range len(net) + 1 {
				if bad := slices.Insert(slices.Clone(net), k, impl.Comp{A: line, B: line}); impl.NetValid(lines, bad) {
					t.Fatal(lines, bad)
				}
			}
		}
	})
	badNets(func(lines int, net []impl.Comp) {
		if impl.NetValid(lines, net) {
			t.Fatal(lines, net)
		}
	})
}

func TestNetValidAtItsBounds(t *testing.T) {
	for lines := -2; lines <= mostLines+3; lines++ {
		if impl.NetValid(lines, nil) != (lines >= 1 && lines <= mostLines) {
			t.Fatal(lines)
		}
		for a := -2; a <= mostLines+2; a++ {
			for b := -2; b <= mostLines+2; b++ {
				want := lines >= 1 && lines <= mostLines && a >= 0 && b > a && b < lines
				if impl.NetValid(lines, []impl.Comp{{A: a, B: b}}) != want {
					t.Fatal(lines, a, b)
				}
			}
		}
	}
	full := slices.Repeat([]impl.Comp{{A: 0, B: 1}}, mostComps)
	if !impl.NetValid(2, full) || impl.NetValid(2, append(full, impl.Comp{A: 0, B: 1})) || impl.NetValid(2, append([]impl.Comp{{A: 0, B: 1}}, full...)) {
		t.Fatal("comparators")
	}
}

// Promise 45, NetRun: nothing is lost, what is sorted stays so, and in two parts it is the same.
func TestNetRun(t *testing.T) {
	row := &numbers{state: 11}
	nets(func(lines int, net []impl.Comp) {
		lists := [][]int{ascending(lines), descending(lines), make([]int, lines), row.perm(lines)}
		equals := make([]int, lines)
		great := make([]int, lines)
		for k := range equals {
			equals[k] = row.below(3) - 1
			great[k] = []int{math.MinInt, math.MaxInt, 0, -1}[row.below(4)]
		}
		for _, list := range append(lists, equals, great) {
			out := impl.NetRun(lines, net, list)
			if !slices.Equal(out, behind(net, list)) || !slices.Equal(slices.Sorted(slices.Values(out)), slices.Sorted(slices.Values(list))) {
				t.Fatal(lines, net, list, out)
			}
			if slices.IsSorted(list) && !slices.Equal(out, list) {
				t.Fatal(lines, net, list, out)
			}
			cut := row.below(len(net) + 1)
			if twice := impl.NetRun(lines, net[cut:], impl.NetRun(lines, net[:cut], list)); !slices.Equal(twice, out) {
				t.Fatal(lines, net, list, cut, twice, out)
			}
		}
	})
}

func TestNetRunOfOtherLists(t *testing.T) {
	nets(func(lines int, net []impl.Comp) {
		for _, length := range []int{0, 1, lines - 1, lines + 1, 2 * lines, mostLines + 1, 100} {
			if out := impl.NetRun(lines, net, descending(length)); length != lines && len(out) != 0 {
				t.Fatal(lines, net, length, out)
			}
		}
		if out := impl.NetRun(lines, net, nil); len(out) != 0 {
			t.Fatal(lines, net, out)
		}
	})
	badNets(func(lines int, net []impl.Comp) {
		for length := range mostLines + 3 {
			if out := impl.NetRun(lines, net, descending(length)); len(out) != 0 {
				t.Fatal(lines, net, length, out)
			}
		}
	})
}

// Promise 4, NetSorts: who sorts 0 and 1 sorts everything, with as many comparators as lines, less 1.
func TestWhoSorts0And1SortsEverything(t *testing.T) {
	nets(func(lines int, net []impl.Comp) {
		sorts := impl.NetSorts(lines, net)
		if sorts != sortsAll(net, permsOf(lines)) || sorts != sortsAll(net, allBits(lines)) {
			t.Fatal(lines, net, sorts)
		}
		if sorts && len(net) < lines-1 {
			t.Fatal(lines, net)
		}
	})
	badNets(func(lines int, net []impl.Comp) {
		if impl.NetSorts(lines, net) {
			t.Fatal(lines, net)
		}
	})
}

// Promise 46, BitFault: faults are inputs, and the least one is found.
func TestBitFault(t *testing.T) {
	nets(func(lines int, net []impl.Comp) {
		want := slices.IndexFunc(allBits(lines), func(bits []int) bool { return !slices.IsSorted(behind(net, bits)) })
		fault := impl.BitFault(lines, net)
		if fault != want || fault >= int(math.Pow(2, float64(lines))) || impl.NetSorts(lines, net) != (fault < 0) {
			t.Fatal(lines, net, fault, want)
		}
	})
	badNets(func(lines int, net []impl.Comp) {
		if fault := impl.BitFault(lines, net); fault != -1 {
			t.Fatal(lines, net, fault)
		}
	})
}

// The bit of the value 1 is on the line 0: 1 alone on the first line is the least fault of a network that does nothing.
func TestBitFaultOfFewComparators(t *testing.T) {
	for lines := 2; lines <= mostLines; lines++ {
		if impl.BitFault(lines, nil) != 1 {
			t.Fatal(lines, impl.BitFault(lines, nil))
		}
	}
	bubble := impl.BubbleNet(3)
	if impl.BitFault(1, nil) != -1 || impl.BitFault(3, bubble) != -1 || impl.BitFault(3, bubble[:1]) != 1 || impl.BitFault(3, bubble[:2]) != 3 {
		t.Fatal(impl.BitFault(3, bubble[:1]), impl.BitFault(3, bubble[:2]))
	}
	// With a 1 in each half, one of them stays on the line 1 until the lines in the middle are compared.
	net := []impl.Comp{{A: 0, B: 1}, {A: 2, B: 3}, {A: 0, B: 2}, {A: 1, B: 3}}
	if impl.BitFault(4, net) != 5 || impl.BitFault(4, append(net, impl.Comp{A: 1, B: 2})) != -1 {
		t.Fatal(impl.BitFault(4, net))
	}
}

// Promise 5, Neighbours and SortsTurned: for neighbours one input decides.
func TestForNeighboursOneInputDecides(t *testing.T) {
	sorting := 0
	neighbourNets(func(lines int, net []impl.Comp) {
		sorts := sortsAll(net, permsOf(lines))
		if !impl.Neighbours(lines, net) || impl.SortsTurned(lines, net) != sorts || impl.NetSorts(lines, net) != sorts {
			t.Fatal(lines, net, sorts)
		}
		if sorts {
			sorting++
		}
	})
	if sorting < 50 {
		t.Fatal("hardly any network sorts", sorting)
	}
}

func TestNeighbours(t *testing.T) {
	nets(func(lines int, net []impl.Comp) {
		want := !slices.ContainsFunc(net, func(c impl.Comp) bool { return c.B-c.A > 1 })
		if impl.Neighbours(lines, net) != want {
			t.Fatal(lines, net, want)
		}
	})
	badNets(func(lines int, net []impl.Comp) {
		if impl.Neighbours(lines, net) {
			t.Fatal(lines, net)
		}
	})
}

// Promise 47, SortsTurned: who sorts sorts the descending numbers; neighbours need a comparator for each pair of lines.
func TestSortsTurned(t *testing.T) {
	nets(func(lines int, net []impl.Comp) {
		turned := impl.SortsTurned(lines, net)
		if turned != slices.IsSorted(behind(net, descending(lines))) {
			t.Fatal(lines, net, turned)
		}
		if impl.NetSorts(lines, net) && !turned {
			t.Fatal(lines, net)
		}
		if turned && impl.Neighbours(lines, net) && len(net) < lines*(lines-1)/2 {
			t.Fatal(lines, net)
		}
	})
	badNets(func(lines int, net []impl.Comp) {
		if impl.SortsTurned(lines, net) {
			t.Fatal(lines, net)
		}
	})
}

// One input decides for neighbours alone.
func TestSortsTurnedOfOthers(t *testing.T) {
	for _, net := range [][]impl.Comp{{{A: 0, B: 2}}, {{A: 0, B: 2}, {A: 0, B: 2}}} {
		if !impl.SortsTurned(3, net) || impl.NetSorts(3, net) || impl.Neighbours(3, net) {
			t.Fatal(net)
		}
	}
}

// stepsOf returns the step of each comparator, by the words of the document.
func stepsOf(net []impl.Comp) []int {
	steps := []int{}
	for k, c := range net {
		step := 0
		for m, other := range net[:k] {
			if other.A == c.A || other.A == c.B || other.B == c.A || other.B == c.B {
				step = max(step, steps[m]+1)
			}
		}
		steps = append(steps, step)
	}
	return steps
}

// Promise 48, NetDepth: steps have comparators.
func TestNetDepth(t *testing.T) {
	nets(func(lines int, net []impl.Comp) {
		steps := stepsOf(net)
		depth := impl.NetDepth(lines, net)
		if depth != slices.Max(append(steps, -1))+1 || depth > len(net) {
			t.Fatal(lines, net, depth, steps)
		}
		for step := range depth {
			comps := len(slices.DeleteFunc(slices.Clone(steps), func(s int) bool { return s != step }))
			if comps == 0 || 2*comps > lines {
				t.Fatal(lines, net, step, comps)
			}
		}
		for _, c := range pairsOf(lines) {
			if len(net) < mostComps {
				if more := impl.NetDepth(lines, append(slices.Clone(net), c)); more != depth && more != depth+1 {
					t.Fatal(lines, net, c, depth, more)
				}
			}
		}
	})
	badNets(func(lines int, net []impl.Comp) {
		if depth := impl.NetDepth(lines, net); depth != -1 {
			t.Fatal(lines, net, depth)
		}
	})
}

func TestNetDepthOfSome(t *testing.T) {
	for lines := 1; lines <= mostLines; lines++ {
		if impl.NetDepth(lines, nil) != 0 {
			t.Fatal(lines)
		}
		for _, c := range pairsOf(lines) {
			if impl.NetDepth(lines, []impl.Comp{c}) != 1 || impl.NetDepth(lines, slices.Repeat([]impl.Comp{c}, mostComps)) != mostComps {
				t.Fatal(lines, c)
			}
		}
	}
	// The last comparator has the lines 4 and 5 for itself, and so is in the first step.
	net := []impl.Comp{{A: 0, B: 1}, {A: 1, B: 2}, {A: 2, B: 3}, {A: 4, B: 5}}
	if impl.NetDepth(6, net) != 3 {
		t.Fatal(impl.NetDepth(6, net))
	}
}

// Promise 6, BubbleNet: bubbles sort.
func TestBubblesSort(t *testing.T) {
	for lines := 1; lines <= mostLines; lines++ {
		net := impl.BubbleNet(lines)
		if !impl.NetValid(lines, net) || !sortsAll(net, permsOf(lines)) || !impl.NetSorts(lines, net) || !impl.Neighbours(lines, net) || len(net) != lines*(lines-1)/2 {
			t.Fatal(lines, net)
		}
		want := []impl.Comp{}
		for round := 1; round < lines; round++ {
			want = append(want, pairsOf(lines)[:lines-round]...)
		}
		sameNet(t, "BubbleNet", net, want)
	}
	sameNet(t, "BubbleNet of 4", impl.BubbleNet(4), []impl.Comp{{A: 0, B: 1}, {A: 1, B: 2}, {A: 2, B: 3}, {A: 0, B: 1}, {A: 1, B: 2}, {A: 0, B: 1}})
}

// Promise 7, BrickNet: bricks sort.
func TestBricksSort(t *testing.T) {
	for lines := 1; lines <= mostLines; lines++ {
		net := impl.BrickNet(lines)
		if !impl.NetValid(lines, net) || !sortsAll(net, permsOf(lines)) || !impl.NetSorts(lines, net) || !impl.Neighbours(lines, net) || impl.NetDepth(lines, net) > lines {
			t.Fatal(lines, net)
		}
		want := []impl.Comp{}
		for step := range lines {
			for a := range lines - 1 {
				if (a-step)%2 == 0 {
					want = append(want, impl.Comp{A: a, B: a + 1})
				}
			}
		}
		sameNet(t, "BrickNet", net, want)
	}
	sameNet(t, "BrickNet of 2", impl.BrickNet(2), []impl.Comp{{A: 0, B: 1}})
	sameNet(t, "BrickNet of 5", impl.BrickNet(5), []impl.Comp{{A: 0, B: 1}, {A: 2, B: 3}, {A: 1, B: 2}, {A: 3, B: 4}, {A: 0, B: 1}, {A: 2, B: 3}, {A: 1, B: 2}, {A: 3, B: 4}, {A: 0, B: 1}, {A: 2, B: 3}})
}

// Promise 8, MergeNet: merging sorts, with no more comparators than BubbleNet, and never deeper.
func TestMergingSorts(t *testing.T) {
	two := []impl.Comp{{A: 0, B: 1}}
	four := []impl.Comp{{A: 0, B: 1}, {A: 2, B: 3}, {A: 0, B: 2}, {A: 1, B: 3}, {A: 1, B: 2}}
	// What MergeNet of 8 lines would be, written out by hand: two times four lines, then the even ones and the odd ones merged.
	eight := slices.Concat(four, []impl.Comp{{A: 4, B: 5}, {A: 6, B: 7}, {A: 4, B: 6}, {A: 5, B: 7}, {A: 5, B: 6}},
		[]impl.Comp{{A: 0, B: 4}, {A: 2, B: 6}, {A: 2, B: 4}}, []impl.Comp{{A: 1, B: 5}, {A: 3, B: 7}, {A: 3, B: 5}},
		[]impl.Comp{{A: 1, B: 2}, {A: 3, B: 4}, {A: 5, B: 6}})
	powers := [][]impl.Comp{nil, nil, two, four, four, eight, eight}
	comps := []int{0, 0, 1, 3, 5, 9, 12}
	for lines := 1; lines <= mostLines; lines++ {
		net := impl.MergeNet(lines)
		if !impl.NetValid(lines, net) || !sortsAll(net, permsOf(lines)) || !impl.NetSorts(lines, net) {
			t.Fatal(lines, net)
		}
		if len(net) != comps[lines] || len(net) > len(impl.BubbleNet(lines)) || impl.NetDepth(lines, net) > impl.NetDepth(lines, impl.BubbleNet(lines)) {
			t.Fatal(lines, net)
		}
		want := slices.DeleteFunc(slices.Clone(powers[lines]), func(c impl.Comp) bool { return c.B >= lines })
		sameNet(t, "MergeNet", net, want)
	}
}

func TestNoNetworksOfOtherNumbersOfLines(t *testing.T) {
	for _, lines := range []int{math.MinInt, -100, -6, -2, -1, 0, 7, 8, 9, 16, 64, 1 << 40, 1 << 62, math.MaxInt} {
		if len(impl.BubbleNet(lines)) != 0 || len(impl.BrickNet(lines)) != 0 || len(impl.MergeNet(lines)) != 0 {
			t.Fatal(lines)
		}
	}
}

// firstUseless returns the first comparator that exchanges nothing, for all permutations, -1 if there is none.
func firstUseless(lines int, net []impl.Comp) int {
	for k, c := range net {
		useless := true
		for _, p := range permsOf(lines) {
			before := behind(net[:k], p)
			useless = useless && before[c.A] < before[c.B]
		}
		if useless {
			return k
		}
	}
	return -1
}

// Promise 49, NetUseless: useless comparators can go, and a comparator behind the same one is always useless.
func TestNetUseless(t *testing.T) {
	found := 0
	nets(func(lines int, net []impl.Comp) {
		useless := impl.NetUseless(lines, net)
		if lines <= 4 && useless != firstUseless(lines, net) {
			t.Fatal(lines, net, useless)
		}
		if useless >= 0 {
			found++
			less := slices.Delete(slices.Clone(net), useless, useless+1)
			if impl.NetSorts(lines, net) != impl.NetSorts(lines, less) {
				t.Fatal(lines, net, useless)
			}
		}
		for k := 1; k < len(net); k++ {
			if net[k] == net[k-1] && (useless < 0 || useless > k) {
				t.Fatal(lines, net, k, useless)
			}
		}
		if len(net) > 0 && len(net) < mostComps {
			twice := append(slices.Clone(net), net[len(net)-1])
			want := useless
			if useless < 0 {
				want = len(net)
			}
			if impl.NetUseless(lines, twice) != want {
				t.Fatal(lines, twice, want)
			}
		}
	})
	if found < 1000 {
		t.Fatal("hardly any useless comparator", found)
	}
	badNets(func(lines int, net []impl.Comp) {
		if useless := impl.NetUseless(lines, net); useless != -1 {
			t.Fatal(lines, net, useless)
		}
	})
}

// Long networks of many lines, and those of one line or without comparators.
func TestNetUselessOfSome(t *testing.T) {
	row := &numbers{state: 17}
	for range 40 {
		lines := 5 + row.below(2)
		net := randomNet(row, lines, pairsOf(lines))
		if useless := impl.NetUseless(lines, net); useless != firstUseless(lines, net) {
			t.Fatal(lines, net, useless)
		}
	}
	for lines := 1; lines <= mostLines; lines++ {
		if impl.NetUseless(lines, nil) != -1 || impl.NetUseless(lines, impl.BubbleNet(lines)) != -1 || impl.NetUseless(lines, impl.MergeNet(lines)) != firstUseless(lines, impl.MergeNet(lines)) {
			t.Fatal(lines)
		}
		for _, c := range pairsOf(lines) {
			if impl.NetUseless(lines, append(impl.BubbleNet(lines), c, c)) != len(impl.BubbleNet(lines)) {
				t.Fatal(lines, c)
			}
		}
	}
}

// Networks without comparators leave everything as it is; one line alone is always in order.
func TestNetworksWithoutComparators(t *testing.T) {
	for lines := 1; lines <= mostLines; lines++ {
		for _, net := range [][]impl.Comp{nil, {}} {
			if !impl.NetValid(lines, net) || !impl.Neighbours(lines, net) || impl.NetSorts(lines, net) != (lines == 1) || impl.SortsTurned(lines, net) != (lines == 1) {
				t.Fatal(lines)
			}
			for _, p := range permsOf(lines) {
				if out := impl.NetRun(lines, net, p); !slices.Equal(out, p) {
					t.Fatal(lines, p, out)
				}
			}
		}
	}
	if len(impl.BubbleNet(1)) != 0 || len(impl.BrickNet(1)) != 0 || len(impl.MergeNet(1)) != 0 {
		t.Fatal("one line has a comparator")
	}
	if out := impl.NetRun(1, nil, []int{math.MinInt}); len(out) != 1 || out[0] != math.MinInt {
		t.Fatal(out)
	}
}

func TestNetworksAreNotWrittenTo(t *testing.T) {
	look := func(lines int, net []impl.Comp) {
		net = compsWithRoom(net)
		before := slices.Clone(net[:cap(net)])
		netFunctions(lines, net)
		list := withRoom(descending(max(0, min(lines, 9))))
		numbers := slices.Clone(list[:cap(list)])
		impl.NetRun(lines, net, list)
		if !slices.Equal(net[:cap(net)], before) || !slices.Equal(list[:cap(list)], numbers) {
			t.Fatal(lines, before, net[:cap(net)], list[:cap(list)])
		}
	}
	nets(look)
	badNets(look)
}

func TestNetRunIsNewMemory(t *testing.T) {
	nets(func(lines int, net []impl.Comp) {
		list := withRoom(descending(lines))
		before := slices.Clone(list[:cap(list)])
		overwrite(impl.NetRun(lines, net, list))
		if !slices.Equal(list[:cap(list)], before) {
			t.Fatal(lines, net, list[:cap(list)])
		}
	})
}

func TestBuiltNetworksAreNewMemory(t *testing.T) {
	for lines := 1; lines <= mostLines; lines++ {
		for _, build := range []func(lines int) []impl.Comp{impl.BubbleNet, impl.BrickNet, impl.MergeNet} {
			one, other := build(lines), build(lines)
			want := slices.Clone(other)
			for k := range one[:cap(one)] {
				one[:cap(one)][k] = impl.Comp{A: 77, B: 88}
			}
			sameNet(t, "built before", other, want)
			sameNet(t, "built again", build(lines), want)
		}
	}
}
