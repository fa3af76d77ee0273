package tests

import (
	"math"
	"slices"
	"testing"

	"loop.example/circuitswitching/impl"
)

func TestConstantsOfChapter1(t *testing.T) {
	if impl.MaxPorts != 6 || impl.MaxUnits != 6 {
		t.Fatal(impl.MaxPorts, impl.MaxUnits)
	}
}

// Promise 1, PermSwaps: exchanges bring order.
func TestExchangesBringOrder(t *testing.T) {
	eachPerm(func(p []int) {
		swaps := impl.PermSwaps(p)
		if (swaps == 0) != slices.IsSorted(p) {
			t.Fatal(p, swaps)
		}
		less := false
		for b := range p {
			for a := range b {
				other := impl.PermSwaps(exchanged(p, a, b))
				if other < swaps-1 {
					t.Fatalf("%v: %d, and %d with the places %d and %d exchanged", p, swaps, other, a, b)
				}
				less = less || other == swaps-1
			}
		}
		if less != (swaps > 0) {
			t.Fatal(p, swaps)
		}
	})
}

// PermSwaps by its meaning: order is searched, exchange by exchange, from the ascending numbers on.
func TestPermSwapsIsTheLeastNumber(t *testing.T) {
	for length := range most + 1 {
		found := 0
		known := map[[most]int]bool{}
		layer := [][]int{ascending(length)}
		known[[most]int(append(ascending(length), make([]int, most-length)...))] = true
		for swaps := 0; len(layer) > 0; swaps++ {
			next := [][]int{}
			for _, p := range layer {
				found++
				if impl.PermSwaps(p) != swaps {
					t.Fatal(p, impl.PermSwaps(p), swaps)
				}
				for b := range p {
					for a := range b {
						q := exchanged(p, a, b)
						key := [most]int(append(slices.Clone(q), make([]int, most-length)...))
						if !known[key] {
							known[key] = true
							next = append(next, q)
						}
					}
				}
			}
			layer = next
		}
		if found != len(permsOf(length)) {
			t.Fatal(length, found)
		}
	}
}

// Promise 33, PermValid: permutations have every number.
func TestPermutationsHaveEveryNumber(t *testing.T) {
	eachPerm(func(p []int) {
		if !impl.PermValid(p) {
			t.Fatal(p)
		}
		for b := range p {
			for a := range b {
				if !impl.PermValid(exchanged(p, a, b)) {
					t.Fatal(p, a, b)
				}
			}
		}
		if len(p) > 0 && (impl.PermValid(append(slices.Clone(p), p[0])) || impl.PermValid(append([]int{p[0]}, p...))) {
			t.Fatalf("%v is valid with its first number once more", p)
		}
	})
}

func TestPermValidOfAllLists(t *testing.T) {
	if !impl.PermValid(nil) || !impl.PermValid([]int{}) {
		t.Fatal("the permutation of no ports is one")
	}
	for length := 1; length <= most; length++ {
		list := make([]int, length)
		var fill func(place int)
		fill = func(place int) {
			if place < length {
				for n := -1; n <= length; n++ {
					list[place] = n
					fill(place + 1)
				}
				return
			}
			sorted := slices.Clone(list)
			slices.Sort(sorted)
			if impl.PermValid(list) != slices.Equal(sorted, ascending(length)) {
				t.Fatal(list)
			}
		}
		fill(0)
	}
}

// Every function of permutations has one fixed result for lists that are none.
func TestListsThatAreNoPermutations(t *testing.T) {
	for _, p := range badPerms() {
		if impl.PermValid(p) {
			t.Fatal(p)
		}
		if back := impl.PermBack(p); len(back) != 0 {
			t.Fatal(p, back)
		}
		for _, n := range []int{impl.PermCycles(p), impl.PermSwaps(p), impl.PermCrosses(p), impl.PermRank(p)} {
			if n != -1 {
				t.Fatal(p, n)
			}
		}
		for _, good := range [][]int{nil, ascending(len(p)), descending(len(p))} {
			if x, y := impl.PermThen(p, good), impl.PermThen(good, p); len(x) != 0 || len(y) != 0 {
				t.Fatal(p, good, x, y)
			}
		}
		if x := impl.PermThen(p, p); len(x) != 0 {
			t.Fatal(p, x)
		}
	}
}

func TestPermThenOfOtherLengths(t *testing.T) {
	for a := range most + 1 {
		for b := range most + 1 {
			if x := impl.PermThen(ascending(a), ascending(b)); a != b && len(x) != 0 {
				t.Fatal(a, b, x)
			}
			if x := impl.PermThen(descending(a), descending(b)); a != b && len(x) != 0 {
				t.Fatal(a, b, x)
			}
		}
	}
}

// All functions of permutations are defined for that of no ports.
func TestPermutationOfNoPorts(t *testing.T) {
	for _, p := range [][]int{nil, {}} {
		if len(impl.PermBack(p)) != 0 || len(impl.PermThen(p, p)) != 0 {
			t.Fatal("lists")
		}
		for _, n := range []int{impl.PermCycles(p), impl.PermSwaps(p), impl.PermCrosses(p), impl.PermRank(p)} {
			if n != 0 {
				t.Fatal(n)
			}
		}
	}
	if p, ok := impl.PermOf(0, 0); !ok || len(p) != 0 {
		t.Fatal(p, ok)
	}
}

// Promise 34, PermBack: there and back is where one was.
func TestThereAndBack(t *testing.T) {
	eachPerm(func(p []int) {
		back := impl.PermBack(p)
		if len(back) != len(p) {
			t.Fatal(p, back)
		}
		for in, out := range p {
			if back[out] != in {
				t.Fatal(p, back)
			}
		}
		if again := impl.PermBack(back); !slices.Equal(again, p) {
			t.Fatal(p, back, again)
		}
		if both := impl.PermThen(p, back); !slices.Equal(both, ascending(len(p))) {
			t.Fatal(p, back, both)
		}
		if both := impl.PermThen(back, p); !slices.Equal(both, ascending(len(p))) {
			t.Fatal(p, back, both)
		}
	})
}

// Promise 35, PermThen: one behind the other, in whatever groups.
func TestOneBehindTheOther(t *testing.T) {
	row := &numbers{state: 3}
	for length := range most + 1 {
		all := permsOf(length)
		for _, a := range all {
			for _, b := range all {
				both := impl.PermThen(a, b)
				if len(both) != length {
					t.Fatal(a, b, both)
				}
				for in := range a {
					if both[in] != b[a[in]] {
						t.Fatal(a, b, both)
					}
				}
				if length > 4 && row.below(20) > 0 {
					continue
				}
				if !slices.Equal(impl.PermBack(both), impl.PermThen(impl.PermBack(b), impl.PermBack(a))) {
					t.Fatal(a, b)
				}
				for range min(len(all), 6) {
					c := all[row.below(len(all))]
					if !slices.Equal(impl.PermThen(both, c), impl.PermThen(a, impl.PermThen(b, c))) {
						t.Fatal(a, b, c)
					}
				}
			}
		}
	}
}

// reached returns the numbers that are reached from a number, as bits.
func reached(p []int, n int) int {
	bits := 0
	for bits>>n&1 == 0 {
		bits |= 1 << n
		n = p[n]
	}
	return bits
}

// Promise 36, PermCycles: an exchange joins cycles or divides one.
func TestExchangesJoinOrDivideCycles(t *testing.T) {
	eachPerm(func(p []int) {
		sets := map[int]bool{}
		for n := range p {
			sets[reached(p, n)] = true
		}
		cycles := impl.PermCycles(p)
		if cycles != len(sets) || impl.PermSwaps(p) != len(p)-cycles {
			t.Fatal(p, cycles, len(sets), impl.PermSwaps(p))
		}
		for b := range p {
			for a := range b {
				other := impl.PermCycles(exchanged(p, a, b))
				if other != cycles+1 && other != cycles-1 {
					t.Fatal(p, a, b, cycles, other)
				}
			}
		}
		if back := impl.PermCycles(impl.PermBack(p)); back != cycles {
			t.Fatal(p, cycles, back)
		}
	})
}

// Promise 37, PermCrosses: neighbours bring order, too.
func TestNeighboursBringOrder(t *testing.T) {
	eachPerm(func(p []int) {
		pairs := 0
		for b := range p {
			for a := range b {
				if p[a] > p[b] {
					pairs++
				}
			}
		}
		crosses := impl.PermCrosses(p)
		if crosses != pairs || crosses%2 != impl.PermSwaps(p)%2 {
			t.Fatal(p, crosses, pairs, impl.PermSwaps(p))
		}
		for b := 1; b < len(p); b++ {
			want := crosses + 1
			if p[b-1] > p[b] {
				want = crosses - 1
			}
			if other := impl.PermCrosses(exchanged(p, b-1, b)); other != want {
				t.Fatal(p, b, crosses, other)
			}
		}
	})
}

// Promise 38, PermRank: ranks tell permutations.
func TestRanksTellPermutations(t *testing.T) {
	for length := range most + 1 {
		for before, p := range permsOf(length) {
			rank := impl.PermRank(p)
			if rank != before {
				t.Fatal(p, rank, before)
			}
			if q, ok := impl.PermOf(length, rank); !ok || !slices.Equal(p, q) {
				t.Fatal(p, rank, q, ok)
			}
		}
	}
}

// Promise 39, PermOf: permutations tell ranks.
func TestPermutationsTellRanks(t *testing.T) {
	for length := range most + 1 {
		all := permsOf(length)
		for rank := range all {
			p, ok := impl.PermOf(length, rank)
			if !ok || !impl.PermValid(p) || !slices.Equal(p, all[rank]) || impl.PermRank(p) != rank {
				t.Fatal(length, rank, p, ok)
			}
			next, ok := impl.PermOf(length, rank+1)
			if ok != (rank+1 < len(all)) {
				t.Fatal(length, rank, next, ok)
			}
			if ok && slices.Compare(p, next) >= 0 {
				t.Fatal(p, next)
			}
		}
	}
}

func TestRanksThatAreNone(t *testing.T) {
	orders := []int{1, 1, 2, 6, 24, 120, 720}
	for length, n := range orders {
		for _, rank := range []int{-1, -n, n, n + 1, 2 * n, 720, 5040, math.MinInt, math.MaxInt} {
			if rank >= 0 && rank < n {
				continue
			}
			if p, ok := impl.PermOf(length, rank); ok || len(p) != 0 {
				t.Fatal(length, rank, p)
			}
		}
	}
	for _, length := range []int{-1, -2, -6, 7, 8, 20, 21, 70, math.MinInt, math.MaxInt} {
		for _, rank := range []int{-1, 0, 1, 719, 5039, math.MaxInt} {
			if p, ok := impl.PermOf(length, rank); ok || len(p) != 0 {
				t.Fatal(length, rank, p)
			}
		}
	}
}

func TestPermutationsAreNotWrittenTo(t *testing.T) {
	try := func(p []int) {
		lists := [][]int{withRoom(p), withRoom(ascending(len(p))), withRoom(p)}
		before := look(lists)
		impl.PermValid(lists[0])
		impl.PermCycles(lists[0])
		impl.PermSwaps(lists[0])
		impl.PermCrosses(lists[0])
		impl.PermRank(lists[0])
		results := [][]int{
			impl.PermBack(lists[0]),
			impl.PermThen(lists[0], lists[1]),
			impl.PermThen(lists[1], lists[0]),
			impl.PermThen(lists[0], lists[2]),
			impl.PermThen(lists[0], lists[0]),
		}
		before.unchanged(t, "permutations", lists)
		apart(t, "permutations", results)
		before.unchanged(t, "permutations", lists)
	}
	eachPerm(try)
	for _, p := range badPerms() {
		if len(p) < 9 {
			try(p)
		}
	}
}

// What is done to one result is not seen in the next one.
func TestPermutationsAreNew(t *testing.T) {
	eachPerm(func(p []int) {
		rank := impl.PermRank(p)
		first, _ := impl.PermOf(len(p), rank)
		second, _ := impl.PermOf(len(p), rank)
		back := impl.PermBack(p)
		both := impl.PermThen(p, p)
		wantBack, wantBoth := slices.Clone(back), slices.Clone(both)
		for _, list := range [][]int{first, back, both} {
			overwrite(list)
		}
		third, _ := impl.PermOf(len(p), rank)
		if !slices.Equal(second, p) || !slices.Equal(third, p) {
			t.Fatal(p, second, third)
		}
		if !slices.Equal(impl.PermBack(p), wantBack) || !slices.Equal(impl.PermThen(p, p), wantBoth) {
			t.Fatal(p)
		}
	})
}
