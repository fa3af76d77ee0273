package impl

import "slices"

// MaxPorts is the maximum number of inputs and outputs, and MaxUnits the greatest number of units from an input to an output.
const (
	MaxPorts = 6
	MaxUnits = 6
)

// PermValid reports whether a list has at most MaxPorts numbers, each of those from 0 to one less than its length once.
func PermValid(p []int) bool {
	if len(p) > MaxPorts {
		return false
	}
	var seen [MaxPorts]bool
	for _, n := range p {
		if n < 0 || n >= len(p) || seen[n] {
			return false
		}
		seen[n] = true
	}
	return true
}

// PermBack returns the permutation that goes back: for each output of a valid one (PermValid) its input; nil for other lists.
func PermBack(p []int) []int {
	if !PermValid(p) {
		return nil
	}
	back := make([]int, len(p))
	for in, out := range p {
		back[out] = in
	}
	return back
}

// PermThen returns two valid permutations of the same length one behind the other: each input goes to the output to which the second one takes the output of the first one; nil for other lists.
func PermThen(first []int, second []int) []int {
	if len(first) != len(second) || !PermValid(first) || !PermValid(second) {
		return nil
	}
	both := make([]int, len(first))
	for in, out := range first {
		both[in] = second[out]
	}
	return both
}

// PermCycles returns how many cycles a valid permutation has: how many different sets there are of what is reached from a number by it, again and again; -1 for other lists.
func PermCycles(p []int) int {
	if !PermValid(p) {
		return -1
	}
	var seen [MaxPorts]bool
	cycles := 0
	for start := range p {
		if seen[start] {
			continue
		}
		cycles++
		for n := start; !seen[n]; n = p[n] {
			seen[n] = true
		}
	}
	return cycles
}

// PermSwaps returns how many exchanges of two numbers it takes at least to bring a valid permutation into ascending order: its length, less PermCycles; -1 for other lists.
func PermSwaps(p []int) int {
	if !PermValid(p) {
		return -1
	}
	return len(p) - PermCycles(p)
}

// PermCrosses returns how many pairs of places of a valid permutation there are of which the first one has the greater number; -1 for other lists.
func PermCrosses(p []int) int {
	if !PermValid(p) {
		return -1
	}
	crosses := 0
	for place := range p {
		crosses += lesserBehind(p, place)
	}
	return crosses
}

// PermRank returns how many permutations of the same length come before a valid one, in the order in which the lesser number at the first difference comes first; -1 for other lists.
func PermRank(p []int) int {
	if !PermValid(p) {
		return -1
	}
	rank := 0
	for place := range p {
		// Each lesser number that is still left could stand here instead, before every order of the places behind.
		rank += lesserBehind(p, place) * factorial(len(p)-1-place)
	}
	return rank
}

// PermOf returns the permutation of a length in 0..MaxPorts with a rank (PermRank), and true; nil and false if there is none, and for other lengths.
func PermOf(length int, rank int) ([]int, bool) {
	if length < 0 || length > MaxPorts || rank < 0 || rank >= factorial(length) {
		return nil, false
	}
	var left []int
	for n := range length {
		left = append(left, n)
	}
	p := make([]int, length)
	for place := range p {
		orders := factorial(len(left) - 1)
		k := rank / orders
		rank %= orders
		p[place] = left[k]
		left = slices.Delete(left, k, k+1)
	}
	return p, true
}

// TrafficValid reports whether a table has at most MaxPorts rows, one for each input, each with as many numbers as there are rows, one for each output, all in 0..MaxUnits.
func TrafficValid(table [][]int) bool {
	if len(table) > MaxPorts {
		return false
	}
	for _, row := range table {
		if len(row) != len(table) {
			return false
		}
		for _, units := range row {
			if units < 0 || units > MaxUnits {
				return false
			}
		}
	}
	return true
}

// LineMost returns the greatest sum of a row or a column of valid traffic (TrafficValid), 0 if there are none; -1 for other tables.
func LineMost(table [][]int) int {
	if !TrafficValid(table) {
		return -1
	}
	most := 0
	for _, sum := range lineSums(table) {
		most = max(most, sum)
	}
	return most
}

// Even reports whether all rows and all columns of valid traffic have the same sum; false for other tables.
func Even(table [][]int) bool {
	if !TrafficValid(table) {
		return false
	}
	sums := lineSums(table)
	for _, sum := range sums {
		if sum != sums[0] {
			return false
		}
	}
	return true
}

// MatchFirst returns the permutation with the least rank (PermRank) by which each input of valid traffic goes to an output to which it has at least one unit, and true; nil and false if there is none, and for other tables.
func MatchFirst(table [][]int) ([]int, bool) {
	if !TrafficValid(table) {
		return nil, false
	}
	return leastMatch(table)
}

// Split returns permutations of which valid traffic that is even (Even) is made, as many as the sum of a row, and true: again and again MatchFirst of what is left, of which each input has one unit less to its output then; nil and false for other tables, and true with none for traffic of nothing.
func Split(table [][]int) ([][]int, bool) {
	if !Even(table) {
		return nil, false
	}
	left := copyTable(table)
	var list [][]int
	for range LineMost(table) {
		// There is a match every time, as what is left is even traffic again.
		p, _ := leastMatch(left)
		for in, out := range p {
			left[in][out]--
		}
		list = append(list, p)
	}
	return list, true
}

// Load returns the table that tells for each input and each output of so many ports, in 0..MaxPorts, how many of some permutations of this length take the input to the output; nil if one of them is none, if a number would be greater than MaxUnits, and for other numbers of ports.
func Load(ports int, list [][]int) [][]int {
	if ports < 0 || ports > MaxPorts {
		return nil
	}
	table := make([][]int, ports)
	for in := range table {
		table[in] = make([]int, ports)
	}
	for _, p := range list {
		if len(p) != ports || !PermValid(p) {
			return nil
		}
		for in, out := range p {
			if table[in][out] == MaxUnits {
				return nil
			}
			table[in][out]++
		}
	}
	return table
}

// lesserBehind counts the lesser numbers behind a place.
func lesserBehind(p []int, place int) int {
	count := 0
	for _, n := range p[place+1:] {
		if n < p[place] {
			count++
		}
	}
	return count
}

// factorial returns in how many orders n things can stand, 1 for nothing.
func factorial(n int) int {
	product := 1
	for k := 2; k <= n; k++ {
		product *= k
	}
	return product
}

// lineSums returns the sums of all rows and, behind them, of all columns of a square table.
func lineSums(table [][]int) []int {
	sums := make([]int, 2*len(table))
	for in, row := range table {
		for out, units := range row {
			sums[in] += units
			sums[len(table)+out] += units
		}
	}
	return sums
}

// copyTable returns a table of the same numbers, which can be written to without changing the first one.
func copyTable(table [][]int) [][]int {
	var all [][]int
	for _, row := range table {
		all = append(all, slices.Clone(row))
	}
	return all
}

// leastMatch is MatchFirst of a table that is known to be square, so that Split does not check again what it made itself.
func leastMatch(table [][]int) ([]int, bool) {
	if !canMatch(table, nil) {
		return nil, false
	}
	p := make([]int, 0, len(table))
	for _, row := range table {
		for out, units := range row {
			if units > 0 && !slices.Contains(p, out) && canMatch(table, append(p, out)) {
				p = append(p, out)
				break
			}
		}
	}
	return p, true
}

// canMatch reports whether, while the first inputs keep the outputs that are given to them, each input behind them can have one of the other outputs for itself.
func canMatch(table [][]int, given []int) bool {
	inputOf := make([]int, len(table))
	for out := range inputOf {
		inputOf[out] = -1
	}
	var tried []bool
	var connect func(in int) bool
	connect = func(in int) bool {
		for out, units := range table[in] {
			if units <= 0 || tried[out] {
				continue
			}
			tried[out] = true
			// The input that has this output may change to another one, and so on along an alternating way.
			if inputOf[out] < 0 || connect(inputOf[out]) {
				inputOf[out] = in
				return true
			}
		}
		return false
	}
	for in := len(given); in < len(table); in++ {
		tried = make([]bool, len(table))
		for _, out := range given {
			tried[out] = true
		}
		if !connect(in) {
			return false
		}
	}
	return true
}
