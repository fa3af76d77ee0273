package tests

import (
	"math"
	"slices"
	"testing"

	"loop.example/circuitswitching/impl"
)

// firstOf returns the first of all permutations that uses only what a table has, nil if there is none.
func firstOf(all [][]int, table [][]int) []int {
	for _, p := range all {
		uses := true
		for in, out := range p {
			uses = uses && table[in][out] > 0
		}
		if uses {
			return p
		}
	}
	return nil
}

// allPerms returns for each number of ports all permutations.
func allPerms() [][][]int {
	all := [][][]int{}
	for ports := range most + 1 {
		all = append(all, permsOf(ports))
	}
	return all
}

// Promise 2, MatchFirst: even traffic has a permutation, and the least one is found.
func TestEvenTrafficHasAPermutation(t *testing.T) {
	all := allPerms()
	tables(func(table [][]int) {
		p, ok := impl.MatchFirst(table)
		want := firstOf(all[len(table)], table)
		if ok != (want != nil) || !slices.Equal(p, want) {
			t.Fatal(table, p, ok, want)
		}
		if isEven(table) && mostOf(table) > 0 && !ok {
			t.Fatal(table)
		}
		if !ok {
			return
		}
		if len(p) != len(table) || !impl.PermValid(p) {
			t.Fatal(table, p)
		}
		for in, out := range p {
			if table[in][out] < 1 {
				t.Fatal(table, p)
			}
		}
	})
}

// Promise 3, Split: even traffic is made of permutations; promise 42, only even traffic is.
func TestEvenTrafficIsMadeOfPermutations(t *testing.T) {
	all := allPerms()
	tables(func(table [][]int) {
		list, ok := impl.Split(table)
		if ok != isEven(table) {
			t.Fatal(table, list, ok)
		}
		if !ok {
			if len(list) != 0 {
				t.Fatal(table, list)
			}
			return
		}
		if len(list) != mostOf(table) || len(list) != impl.LineMost(table) {
			t.Fatal(table, list)
		}
		if !sameTable(impl.Load(len(table), list), table) {
			t.Fatal(table, list, impl.Load(len(table), list))
		}
		left := cloneTable(table)
		for _, p := range list {
			if !impl.PermValid(p) || !slices.Equal(p, firstOf(all[len(table)], left)) {
				t.Fatal(table, list, left)
			}
			for in, out := range p {
				left[in][out]--
			}
		}
		if mostOf(left) != 0 {
			t.Fatal(table, list, left)
		}
	})
}

// Promise 40, TrafficValid: traffic may be nothing.
func TestTrafficMayBeNothing(t *testing.T) {
	tables(func(table [][]int) {
		if !impl.TrafficValid(table) {
			t.Fatal(table)
		}
		if !impl.TrafficValid(square(len(table), 0)) {
			t.Fatal(table)
		}
		if len(table) > 1 && impl.TrafficValid(cloneTable(table)[:len(table)-1]) {
			t.Fatalf("%v is valid without its last row", table)
		}
	})
}

func TestTrafficOfNothing(t *testing.T) {
	for ports := range most + 1 {
		table := square(ports, 0)
		if impl.LineMost(table) != 0 || !impl.Even(table) {
			t.Fatal(ports)
		}
		if list, ok := impl.Split(table); !ok || len(list) != 0 {
			t.Fatal(ports, list, ok)
		}
		if p, ok := impl.MatchFirst(table); ok != (ports == 0) || len(p) != 0 {
			t.Fatal(ports, p, ok)
		}
		if x := impl.Load(ports, nil); !sameTable(x, table) {
			t.Fatal(ports, x)
		}
	}
	if !impl.TrafficValid(nil) || impl.LineMost(nil) != 0 || !impl.Even(nil) {
		t.Fatal("traffic without ports")
	}
	if list, ok := impl.Split(nil); !ok || len(list) != 0 {
		t.Fatal(list, ok)
	}
}

// Every function of traffic has one fixed result for tables that are none.
func TestTablesThatAreNoTraffic(t *testing.T) {
	badTables(func(table [][]int) {
		if impl.TrafficValid(table) || impl.LineMost(table) != -1 || impl.Even(table) {
			t.Fatal(table)
		}
		if p, ok := impl.MatchFirst(table); ok || len(p) != 0 {
			t.Fatal(table, p, ok)
		}
		if list, ok := impl.Split(table); ok || len(list) != 0 {
			t.Fatal(table, list, ok)
		}
	})
}

// Promise 41, LineMost: no line has more.
func TestNoLineHasMore(t *testing.T) {
	tables(func(table [][]int) {
		sums := sumsOf(table)
		units := impl.LineMost(table)
		for _, sum := range sums {
			if sum > units {
				t.Fatal(table, units, sums)
			}
		}
		if len(table) > 0 && !slices.Contains(sums, units) || len(table) == 0 && units != 0 {
			t.Fatal(table, units, sums)
		}
	})
}

// The fullest line may be any row and any column.
func TestEachLineMayBeTheFullest(t *testing.T) {
	for ports := 2; ports <= most; ports++ {
		for line := range ports {
			rows, columns := square(ports, 1), square(ports, 1)
			for k := range ports {
				rows[line][k], columns[k][line] = 3, 3
			}
			if impl.LineMost(rows) != 3*ports || impl.LineMost(columns) != 3*ports || impl.Even(rows) || impl.Even(columns) {
				t.Fatal(rows, columns)
			}
		}
	}
}

// Even compares all rows and all columns.
func TestEvenTellsEqualSums(t *testing.T) {
	tables(func(table [][]int) {
		if impl.Even(table) != isEven(table) {
			t.Fatal(table)
		}
	})
	for _, table := range [][][]int{{{1, 0}, {1, 0}}, {{1, 1}, {0, 0}}, {{1, 2, 0}, {1, 1, 1}, {1, 0, 2}}, {{1, 1, 1}, {2, 1, 0}, {0, 1, 2}}, {{2, 1, 1}, {1, 1, 2}, {1, 2, 2}}} {
		if impl.Even(table) != isEven(table) {
			t.Fatal(table)
		}
	}
	evenTables(func(table [][]int) {
		if !impl.Even(table) {
			t.Fatal(table)
		}
		for k := range len(table) * len(table) {
			other := cloneTable(table)
			cell := &other[k/len(table)][k%len(table)]
			*cell = (*cell + 1) % 7
			if len(table) > 1 && impl.Even(other) {
				t.Fatal(other)
			}
		}
	})
}

// Promise 42, Load: the permutations of Split load just the traffic, and uneven traffic has none.
func TestWhatIsMadeOfPermutationsIsEven(t *testing.T) {
	evenTables(func(table [][]int) {
		list, ok := impl.Split(table)
		if !ok || !sameTable(impl.Load(len(table), list), table) {
			t.Fatal(table, list, ok)
		}
		for k := range list {
			fewer := slices.Delete(slices.Clone(list), k, k+1)
			if sameTable(impl.Load(len(table), fewer), table) {
				t.Fatal(table, list)
			}
		}
	})
	for _, table := range [][][]int{{{1, 0}, {0, 0}}, {{1, 0}, {1, 0}}, {{1, 1}, {0, 0}}, {{6, 6}, {6, 5}}, chain(3), chain(6)} {
		if list, ok := impl.Split(table); ok || len(list) != 0 {
			t.Fatal(table, list)
		}
	}
}

// Promise 43, Load: permutations load every line alike.
func TestPermutationsLoadEveryLineAlike(t *testing.T) {
	row := &numbers{state: 5}
	for ports := range most + 1 {
		for k := range 400 {
			list := [][]int{}
			table := square(ports, 0)
			for range k % 25 {
				p := row.perm(ports)
				list = append(list, p)
				if table != nil {
					table = loaded(table, p)
				}
			}
			x := impl.Load(ports, list)
			if !sameTable(x, table) {
				t.Fatal(ports, list, x, table)
			}
			if table == nil {
				continue
			}
			if !impl.TrafficValid(x) || !impl.Even(x) || ports > 0 && impl.LineMost(x) != len(list) {
				t.Fatal(ports, list, x)
			}
		}
	}
}

func TestLoadHasAsManyUnitsAsAllowed(t *testing.T) {
	for ports := 1; ports <= most; ports++ {
		list := slices.Repeat([][]int{descending(ports)}, 6)
		x := impl.Load(ports, list)
		if len(x) != ports || impl.LineMost(x) != 6 || x[0][ports-1] != 6 {
			t.Fatal(ports, x)
		}
		if x := impl.Load(ports, append(list, descending(ports))); len(x) != 0 {
			t.Fatal(ports, x)
		}
	}
	// Only one of the numbers is too great, and it is so before the last permutation.
	list := [][]int{{0, 1, 2}, {0, 2, 1}, {0, 1, 2}, {0, 2, 1}, {0, 1, 2}, {0, 2, 1}}
	if x := impl.Load(3, list); !sameTable(x, [][]int{{6, 0, 0}, {0, 3, 3}, {0, 3, 3}}) {
		t.Fatal(x)
	}
	if x := impl.Load(3, append(list, []int{0, 1, 2}, []int{2, 1, 0})); len(x) != 0 {
		t.Fatal(x)
	}
	all := [][]int{}
	for shift := range most {
		p := []int{}
		for in := range most {
			p = append(p, (in+shift)%most)
		}
		all = append(all, slices.Repeat([][]int{p}, 6)...)
	}
	if x := impl.Load(most, all); !sameTable(x, square(most, 6)) {
		t.Fatal(x)
	}
	if x := impl.Load(0, make([][]int, 100)); len(x) != 0 {
		t.Fatal(x)
	}
}

func TestListsThatLoadNothing(t *testing.T) {
	for _, ports := range []int{-1, -6, 7, 8, math.MinInt, math.MaxInt} {
		for _, list := range [][][]int{nil, {}, {{}}, {{0}}, {ascending(6)}, {ascending(7)}, {ascending(8)}} {
			if x := impl.Load(ports, list); len(x) != 0 {
				t.Fatal(ports, list, x)
			}
		}
	}
	others := badPerms()
	for ports := range most + 1 {
		others = append(others, ascending(ports), descending(ports))
	}
	for ports := 1; ports <= most; ports++ {
		good := ascending(ports)
		for _, p := range others {
			if len(p) == ports && impl.PermValid(p) {
				continue
			}
			for _, list := range [][][]int{{p}, {p, good}, {good, p}, {good, p, good}} {
				if x := impl.Load(ports, list); len(x) != 0 {
					t.Fatal(ports, list, x)
				}
			}
		}
	}
}

func TestTrafficIsNotWrittenTo(t *testing.T) {
	try := func(table [][]int) {
		given := rowsWithRoom(table)
		before := look(given)
		impl.TrafficValid(given)
		impl.LineMost(given)
		impl.Even(given)
		p, _ := impl.MatchFirst(given)
		list, _ := impl.Split(given)
		before.unchanged(t, "traffic", given)
		overwrite(p)
		apart(t, "Split", list)
		before.unchanged(t, "traffic", given)
	}
	tables(try)
	badTables(try)
}

func TestPermutationsToLoadAreNotWrittenTo(t *testing.T) {
	evenTables(func(table [][]int) {
		list, _ := impl.Split(table)
		given := rowsWithRoom(list)
		before := look(given)
		x := impl.Load(len(table), given)
		before.unchanged(t, "Load", given)
		apart(t, "Load", x)
		before.unchanged(t, "Load", given)
		if !sameTable(impl.Load(len(table), given), table) {
			t.Fatal(table)
		}
	})
	given := rowsWithRoom([][]int{{0, 1}, {0, 0}, {1, 0}})
	before := look(given)
	impl.Load(2, given)
	impl.Load(7, given)
	before.unchanged(t, "Load", given)
}

// What is done to one result is not seen in the next one.
func TestTrafficResultsAreNew(t *testing.T) {
	evenTables(func(table [][]int) {
		p, _ := impl.MatchFirst(table)
		list, _ := impl.Split(table)
		wantP, wantList := slices.Clone(p), cloneTable(list)
		overwrite(p)
		apart(t, "Split", list)
		p, _ = impl.MatchFirst(table)
		list, _ = impl.Split(table)
		if !slices.Equal(p, wantP) || !sameTable(list, wantList) {
			t.Fatal(table)
		}
	})
}
