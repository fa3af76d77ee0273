package tests

import (
	"math"
	"slices"
	"testing"

	"loop.example/circuitswitching/impl"
)

func TestConstantsOfNetworksOfSwitches(t *testing.T) {
	if impl.MaxWays != 8 {
		t.Fatal(impl.MaxWays)
	}
}

// Promise 50, LoopMany: as many switches as the lines times the steps of a step network, less half the lines.
func TestLoopMany(t *testing.T) {
	for _, lines := range waysOfLines {
		many := impl.LoopMany(lines)
		steps := impl.StepMany(lines) / (lines / 2)
		if many != loopSwitches(lines) || many != lines*steps-lines/2 {
			t.Fatal(lines, many)
		}
	}
	for _, lines := range otherLines() {
		if many := impl.LoopMany(lines); many != -1 {
			t.Fatal(lines, many)
		}
	}
}

// Promise 53, StepMany: as many switches as lines for 4 lines, and half as many as lines in each step.
func TestStepMany(t *testing.T) {
	if impl.StepMany(4) != 4 {
		t.Fatal(impl.StepMany(4))
	}
	for _, lines := range waysOfLines {
		way, _ := impl.StepWay(lines, 0, 0)
		if many := impl.StepMany(lines); many != stepSwitches(lines) || many != len(way)*lines/2 {
			t.Fatal(lines, many)
		}
	}
	for _, lines := range otherLines() {
		if many := impl.StepMany(lines); many != -1 {
			t.Fatal(lines, many)
		}
	}
}

// Promise 51, LoopRun: whatever the switches, it is a permutation, the one that carries each input to its output; and with any one switch set the other way it is another one.
func TestLoopRun(t *testing.T) {
	for _, lines := range waysOfLines {
		many := loopSwitches(lines)
		runs := make([]int, 1<<many)
		eachSetting(many, func(n int, set []bool) {
			p := impl.LoopRun(lines, set)
			// Values are only exchanged on their way, so that what is wanted is always a permutation.
			if want := back(loopCarries(ascending(lines), set)); !slices.Equal(p, want) {
				t.Fatal(lines, set, p, want)
			}
			runs[n] = packed(p)
		})
		for n := range runs {
			for k := range many {
				if runs[n] == runs[n^1<<k] {
					t.Fatal(lines, settings(many, n), k)
				}
			}
		}
	}
}

// One crossing switch alone, for each place of the list, by hand.
func TestLoopRunOfOneCrossingSwitch(t *testing.T) {
	four := [][]int{{1, 0, 2, 3}, {0, 1, 3, 2}, {2, 1, 0, 3}, {0, 3, 2, 1}, {1, 0, 2, 3}, {0, 1, 3, 2}}
	for k, want := range four {
		set := make([]bool, 6)
		set[k] = true
		if p := impl.LoopRun(4, set); !slices.Equal(p, want) {
			t.Fatal(k, p, want)
		}
	}
	// The pairs of lines that each switch of 8 lines exchanges; one inside the upper or the lower network exchanges even or odd lines alone.
	eight := [][2]int{{0, 1}, {2, 3}, {4, 5}, {6, 7}, {0, 2}, {4, 6}, {0, 4}, {2, 6}, {0, 2}, {4, 6}, {1, 3}, {5, 7}, {1, 5}, {3, 7}, {1, 3}, {5, 7}, {0, 1}, {2, 3}, {4, 5}, {6, 7}}
	for k, pair := range eight {
		set := make([]bool, 20)
		set[k] = true
		if p := impl.LoopRun(8, set); !slices.Equal(p, exchanged(ascending(8), pair[0], pair[1])) {
			t.Fatal(k, p, pair)
		}
	}
}

// Promise 9, LoopSet: every permutation can be realised.
func TestEveryPermutationCanBeRealised(t *testing.T) {
	eachWaysPerm(func(p []int) {
		set, ok := impl.LoopSet(p)
		if !ok || len(set) != loopSwitches(len(p)) || !slices.Equal(impl.LoopRun(len(p), set), p) || !slices.Equal(back(loopCarries(ascending(len(p)), set)), p) {
			t.Fatal(p, set, ok)
		}
	})
}

// The least input of each loop is an even one, and goes through the upper network: of all settings that realise a permutation, those are returned that come first where false is before true.
func TestLoopSetTakesTheFirstSettings(t *testing.T) {
	for _, lines := range waysOfLines {
		many := loopSwitches(lines)
		first := map[int]int{}
		eachSetting(many, func(n int, set []bool) {
			p := packed(back(loopCarries(ascending(lines), set)))
			if _, known := first[p]; !known {
				first[p] = n
			}
		})
		perms := permsOf(lines)
		if len(first) != len(perms) {
			t.Fatal(lines, len(first))
		}
		for _, p := range perms {
			if set, ok := impl.LoopSet(p); !ok || !slices.Equal(set, settings(many, first[packed(p)])) {
				t.Fatal(p, set, ok)
			}
		}
	}
}

// Loops of one and of two rounds, followed by hand.
func TestLoopSetOfSome(t *testing.T) {
	cases := []struct {
		p   []int
		set string
	}{
		{[]int{0, 1}, "."},
		{[]int{1, 0}, "x"},
		{[]int{2, 3, 1, 0}, "..xxx."},
		{[]int{0, 2, 1, 3}, ".x.x.x"},
		{[]int{3, 2, 1, 0}, "..xxxx"},
		{[]int{7, 6, 5, 4, 3, 2, 1, 0}, "......xxxx..xxxxxxxx"},
	}
	for _, c := range cases {
		want := []bool{}
		for _, way := range c.set {
			want = append(want, way == 'x')
		}
		if set, ok := impl.LoopSet(c.p); !ok || !slices.Equal(set, want) {
			t.Fatal(c.p, set, ok)
		}
	}
}

// Promise 52, StepWay: the last line is the output, and two ways to the same output that meet are together from there on.
func TestStepWay(t *testing.T) {
	for _, lines := range waysOfLines {
		for out := range lines {
			ways := [][]int{}
			for in := range lines {
				way, ok := impl.StepWay(lines, in, out)
				if !ok || len(way) != stepSwitches(lines)*2/lines || way[len(way)-1] != out {
					t.Fatal(lines, in, out, way, ok)
				}
				for step, line := range way {
					if line != stepLine(lines, in, out, step) {
						t.Fatal(lines, in, out, way, step)
					}
				}
				for _, other := range ways {
					for step := range way {
						if way[step] == other[step] && !slices.Equal(way[step:], other[step:]) {
							t.Fatal(lines, in, out, way, other)
						}
					}
				}
				ways = append(ways, way)
			}
		}
	}
}

func TestStepWayOfSome(t *testing.T) {
	cases := []struct {
		lines, in, out int
		way            []int
	}{
		{2, 0, 0, []int{0}}, {2, 0, 1, []int{1}}, {2, 1, 0, []int{0}}, {2, 1, 1, []int{1}},
		{4, 0, 0, []int{0, 0}}, {4, 3, 0, []int{2, 0}}, {4, 1, 2, []int{3, 2}}, {4, 2, 3, []int{1, 3}},
		{8, 5, 3, []int{2, 5, 3}}, {8, 7, 7, []int{7, 7, 7}}, {8, 0, 6, []int{1, 3, 6}}, {8, 6, 1, []int{4, 0, 1}},
	}
	for _, c := range cases {
		if way, ok := impl.StepWay(c.lines, c.in, c.out); !ok || !slices.Equal(way, c.way) {
			t.Fatal(c, way, ok)
		}
	}
}

func TestStepWayOfOthers(t *testing.T) {
	none := func(lines int, in int, out int) {
		if way, ok := impl.StepWay(lines, in, out); ok || len(way) != 0 {
			t.Fatal(lines, in, out, way, ok)
		}
	}
	for _, lines := range otherLines() {
		for _, line := range []int{-1, 0, 1, lines - 1, lines / 2} {
			none(lines, line, 0)
			none(lines, 0, line)
			none(lines, line, line)
		}
	}
	for _, lines := range waysOfLines {
		for _, bad := range []int{math.MinInt, -lines, -2, -1, lines, lines + 1, 2 * lines, 64, math.MaxInt} {
			none(lines, bad, bad)
			for line := range lines {
				none(lines, bad, line)
				none(lines, line, bad)
			}
		}
	}
}

// Promise 10, StepClashes: shifts never clash, and there are never more clashes than pairs of inputs.
func TestShiftsNeverClash(t *testing.T) {
	for _, lines := range waysOfLines {
		for shift := range lines {
			p := []int{}
			for in := range lines {
				p = append(p, (in+shift)%lines)
			}
			if clashes := impl.StepClashes(p); clashes != 0 {
				t.Fatal(p, clashes)
			}
		}
	}
	eachWaysPerm(func(p []int) {
		clashes := impl.StepClashes(p)
		if clashes != clashing(p) || clashes < 0 || clashes > len(p)*(len(p)-1)/2 {
			t.Fatal(p, clashes, clashing(p))
		}
	})
}

// Pairs that are on the same line behind two steps are counted once.
func TestStepClashesOfSome(t *testing.T) {
	cases := []struct {
		p       []int
		clashes int
	}{
		{[]int{0, 1}, 0}, {[]int{1, 0}, 0}, {[]int{0, 2, 1, 3}, 2}, {[]int{1, 2, 3, 0}, 0}, {[]int{3, 2, 1, 0}, 0}, {[]int{0, 4, 2, 6, 1, 5, 3, 7}, 4},
	}
	for _, c := range cases {
		if clashes := impl.StepClashes(c.p); clashes != c.clashes {
			t.Fatal(c.p, clashes)
		}
	}
}

// Promise 11, StepRun: it realises a permutation without clashes, and StepSet of it are the same settings.
func TestWhatItRealisesDoesNotClash(t *testing.T) {
	for _, lines := range waysOfLines {
		realised := map[int]bool{}
		eachSetting(stepSwitches(lines), func(_ int, set []bool) {
			p := impl.StepRun(lines, set)
			if want := back(stepCarries(ascending(lines), set)); !slices.Equal(p, want) || impl.StepClashes(p) != 0 {
				t.Fatal(lines, set, p, want)
			}
			if again, ok := impl.StepSet(p); !ok || !slices.Equal(again, set) {
				t.Fatal(lines, set, p, again, ok)
			}
			realised[packed(p)] = true
		})
		if len(realised) != 1<<stepSwitches(lines) {
			t.Fatal(lines, len(realised))
		}
	}
}

// One crossing switch alone, for each place of the list, by hand.
func TestStepRunOfOneCrossingSwitch(t *testing.T) {
	four := [][]int{{2, 1, 0, 3}, {0, 3, 2, 1}, {1, 0, 2, 3}, {0, 1, 3, 2}}
	for k, want := range four {
		set := make([]bool, 4)
		set[k] = true
		if p := impl.StepRun(4, set); !slices.Equal(p, want) {
			t.Fatal(k, p, want)
		}
	}
	// The pairs of lines that each switch of 8 lines exchanges: they differ by 4, by 2, and by 1.
	eight := [][2]int{{0, 4}, {1, 5}, {2, 6}, {3, 7}, {0, 2}, {4, 6}, {1, 3}, {5, 7}, {0, 1}, {2, 3}, {4, 5}, {6, 7}}
	for k, pair := range eight {
		set := make([]bool, 12)
		set[k] = true
		if p := impl.StepRun(8, set); !slices.Equal(p, exchanged(ascending(8), pair[0], pair[1])) {
			t.Fatal(k, p, pair)
		}
	}
}

// Promise 12, StepSet: what does not clash can be realised, and nothing else.
func TestWhatDoesNotClashCanBeRealised(t *testing.T) {
	eachWaysPerm(func(p []int) {
		set, ok := impl.StepSet(p)
		if ok != (clashing(p) == 0) || ok != (impl.StepClashes(p) == 0) {
			t.Fatal(p, set, ok)
		}
		if !ok && len(set) != 0 {
			t.Fatal(p, set)
		}
		if ok && (len(set) != stepSwitches(len(p)) || !slices.Equal(impl.StepRun(len(p), set), p)) {
			t.Fatal(p, set)
		}
	})
}

// Networks of two lines are one switch.
func TestNetworksOfTwoLines(t *testing.T) {
	for _, crosses := range []bool{false, true} {
		p := []int{0, 1}
		if crosses {
			p = []int{1, 0}
		}
		set := []bool{crosses}
		if !slices.Equal(impl.LoopRun(2, set), p) || !slices.Equal(impl.StepRun(2, set), p) || impl.StepClashes(p) != 0 {
			t.Fatal(crosses, impl.LoopRun(2, set), impl.StepRun(2, set))
		}
		if one, ok := impl.LoopSet(p); !ok || !slices.Equal(one, set) {
			t.Fatal(p, one, ok)
		}
		if one, ok := impl.StepSet(p); !ok || !slices.Equal(one, set) {
			t.Fatal(p, one, ok)
		}
	}
	if impl.LoopMany(2) != 1 || impl.StepMany(2) != 1 {
		t.Fatal(impl.LoopMany(2), impl.StepMany(2))
	}
}

// Where everything stays where it is, no switch crosses, and the other way round.
func TestEverythingStaysWhereItIs(t *testing.T) {
	for _, lines := range waysOfLines {
		p := ascending(lines)
		loops, steps := make([]bool, loopSwitches(lines)), make([]bool, stepSwitches(lines))
		if !slices.Equal(impl.LoopRun(lines, loops), p) || !slices.Equal(impl.StepRun(lines, steps), p) || impl.StepClashes(p) != 0 {
			t.Fatal(lines, impl.LoopRun(lines, loops), impl.StepRun(lines, steps))
		}
		if set, ok := impl.LoopSet(p); !ok || !slices.Equal(set, loops) {
			t.Fatal(lines, set, ok)
		}
		if set, ok := impl.StepSet(p); !ok || !slices.Equal(set, steps) {
			t.Fatal(lines, set, ok)
		}
	}
}

// Other numbers of lines, and lists of settings of other lengths than the network has switches.
func TestNoRunsOfOtherSettings(t *testing.T) {
	none := func(lines int, set []bool) {
		if p := impl.LoopRun(lines, set); len(p) != 0 && len(set) != loopSwitches(lines) {
			t.Fatal(lines, len(set), p)
		}
		if p := impl.StepRun(lines, set); len(p) != 0 && len(set) != stepSwitches(lines) {
			t.Fatal(lines, len(set), p)
		}
	}
	for many := range 70 {
		for _, set := range [][]bool{make([]bool, many), slices.Repeat([]bool{true}, many)} {
			for _, lines := range waysOfLines {
				none(lines, set)
			}
			for _, lines := range otherLines() {
				if loop, step := impl.LoopRun(lines, set), impl.StepRun(lines, set); len(loop) != 0 || len(step) != 0 {
					t.Fatal(lines, many, loop, step)
				}
			}
		}
	}
	for _, lines := range waysOfLines {
		none(lines, nil)
		none(lines, make([]bool, 1000))
	}
}

func TestNoSettingsOfOtherLists(t *testing.T) {
	for _, p := range badWaysPerms() {
		if set, ok := impl.LoopSet(p); ok || len(set) != 0 {
			t.Fatal(p, set, ok)
		}
		if set, ok := impl.StepSet(p); ok || len(set) != 0 {
			t.Fatal(p, set, ok)
		}
		if clashes := impl.StepClashes(p); clashes != -1 {
			t.Fatal(p, clashes)
		}
	}
}

func TestSettingsAreNotWrittenTo(t *testing.T) {
	look := func(lines int, set []bool) {
		set = setWithRoom(set)
		before := slices.Clone(set[:cap(set)])
		setFunctions(lines, set)
		if !slices.Equal(set[:cap(set)], before) {
			t.Fatal(lines, before, set[:cap(set)])
		}
	}
	row := &numbers{state: 23}
	for _, lines := range append(otherLines(), waysOfLines...) {
		for many := range 25 {
			look(lines, settings(many, row.below(1<<many)))
		}
	}
	for range 2000 {
		look(8, settings(20, row.below(1<<20)))
		look(8, settings(12, row.below(1<<12)))
	}
}

func TestListsOfNetworksAreNotWrittenTo(t *testing.T) {
	look := func(p []int) {
		p = withRoom(p)
		before := slices.Clone(p[:cap(p)])
		listFunctions(p)
		if !slices.Equal(p[:cap(p)], before) {
			t.Fatal(before, p[:cap(p)])
		}
	}
	eachWaysPerm(look)
	for _, p := range badWaysPerms() {
		look(p)
	}
}

// freshSettings fails the test if the settings of two calls share memory, or depend on what was written to those of an earlier call.
func freshSettings(t *testing.T, p []int, setOf func(p []int) ([]bool, bool)) {
	t.Helper()
	one, _ := setOf(p)
	other, _ := setOf(p)
	want := slices.Clone(other)
	overwriteSet(one)
	if again, _ := setOf(p); !slices.Equal(other, want) || !slices.Equal(again, want) {
		t.Fatal(p, other, again, want)
	}
}

// freshNumbers does so for numbers.
func freshNumbers(t *testing.T, numbersOf func() []int) {
	t.Helper()
	one, other := numbersOf(), numbersOf()
	want := slices.Clone(other)
	overwrite(one)
	if again := numbersOf(); !slices.Equal(other, want) || !slices.Equal(again, want) {
		t.Fatal(other, again, want)
	}
}

func TestResultsOfNetworksAreNewMemory(t *testing.T) {
	row := &numbers{state: 29}
	for _, lines := range waysOfLines {
		for range 200 {
			p := row.perm(lines)
			freshSettings(t, p, impl.LoopSet)
			loops := settings(loopSwitches(lines), row.below(1<<loopSwitches(lines)))
			steps := settings(stepSwitches(lines), row.below(1<<stepSwitches(lines)))
			freshSettings(t, impl.StepRun(lines, steps), impl.StepSet)
			freshNumbers(t, func() []int { return impl.LoopRun(lines, loops) })
			freshNumbers(t, func() []int { return impl.StepRun(lines, steps) })
		}
		for in := range lines {
			for out := range lines {
				freshNumbers(t, func() []int { way, _ := impl.StepWay(lines, in, out); return way })
			}
		}
	}
}
