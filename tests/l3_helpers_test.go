package tests

import (
	"math"
	"slices"

	"loop.example/circuitswitching/impl"
)

// waysOfLines are the numbers of lines of which there are networks of switches, the last one of them impl.MaxWays written out.
var waysOfLines = []int{2, 4, 8}

// loopSwitches and stepSwitches are how many switches the networks have, counted by hand, so that they do not depend on LoopMany and StepMany.
func loopSwitches(lines int) int {
	return []int{2: 1, 4: 6, 8: 20}[lines]
}

func stepSwitches(lines int) int {
	return []int{2: 1, 4: 4, 8: 12}[lines]
}

// otherLines are numbers of lines of which there are no networks of switches.
func otherLines() []int {
	others := []int{math.MinInt, math.MinInt + 1, -8, -4, -2, -1, 0, 1, 3, 1 << 31, 1 << 32, 1<<32 + 2, 1<<62 + 4, math.MaxInt - 1, math.MaxInt}
	for lines := 5; lines <= 70; lines++ {
		if lines != 8 {
			others = append(others, lines)
		}
	}
	return others
}

// settings returns the list of so many switches whose entries are the binary digits of a number, the greatest digit first, so that lesser numbers have lists that come first where false is before true.
func settings(many int, n int) []bool {
	set := make([]bool, many)
	for k := range set {
		set[many-1-k] = n%2 == 1
		n /= 2
	}
	return set
}

// eachSetting visits all settings of so many switches in the order of their numbers.
func eachSetting(many int, visit func(n int, set []bool)) {
	for n := range 1 << many {
		visit(n, settings(many, n))
	}
}

// packed returns a list of at most 8 numbers from 0 to 7 as one number.
func packed(p []int) int {
	all := 0
	for _, n := range p {
		all = all*8 + n
	}
	return all
}

// crossed returns what is behind a column of switches, each with two lines side by side.
func crossed(values []int, column []bool) []int {
	out := slices.Clone(values)
	for k, crosses := range column {
		if crosses {
			out = exchanged(out, 2*k, 2*k+1)
		}
	}
	return out
}

// everyOther returns the values of the even lines, or, from 1 on, of the odd ones.
func everyOther(values []int, first int) []int {
	some := []int{}
	for k := first; k < len(values); k += 2 {
		some = append(some, values[k])
	}
	return some
}

// interleaved returns the values of two lists in turns.
func interleaved(even []int, odd []int) []int {
	all := []int{}
	for k := range even {
		all = append(all, even[k], odd[k])
	}
	return all
}

// loopCarries returns what arrives at the outputs of a loop network, column by column, if some values enter it.
func loopCarries(values []int, set []bool) []int {
	half := len(values) / 2
	values = crossed(values, set[:half])
	if len(values) == 2 {
		return values
	}
	middle := half + loopSwitches(half)
	upper := loopCarries(everyOther(values, 0), set[half:middle])
	lower := loopCarries(everyOther(values, 1), set[middle:len(set)-half])
	return crossed(interleaved(upper, lower), set[len(set)-half:])
}

// stepCarries does so for a step network.
func stepCarries(values []int, set []bool) []int {
	half := len(values) / 2
	for begin := 0; begin < len(set); begin += half {
		values = crossed(interleaved(values[:half], values[half:]), set[begin:begin+half])
	}
	return values
}

// back returns for each output the input, when it is told for each input which output it has, or the other way round.
func back(p []int) []int {
	other := make([]int, len(p))
	for k, n := range p {
		other[n] = k
	}
	return other
}

// stepLine returns the line behind a step: the last bits of the input, as many as are left, and behind them the first bits of the output.
func stepLine(lines int, in int, out int, step int) int {
	steps := stepSwitches(lines) * 2 / lines
	return (in<<(step+1) + out>>(steps-1-step)) % lines
}

// clashing returns how many pairs of inputs are on the same line behind some step.
func clashing(p []int) int {
	pairs := 0
	for one := range p {
		for other := range one {
			clash := false
			for step := range stepSwitches(len(p)) * 2 / len(p) {
				clash = clash || stepLine(len(p), one, p[one], step) == stepLine(len(p), other, p[other], step)
			}
			if clash {
				pairs++
			}
		}
	}
	return pairs
}

// eachWaysPerm visits all permutations of 2, 4 and 8 lines.
func eachWaysPerm(visit func(p []int)) {
	for _, lines := range waysOfLines {
		for _, p := range permsOf(lines) {
			visit(p)
		}
	}
}

// badWaysPerms returns lists that are no permutations of 2, 4 or 8 lines: of other lengths, or with one number that is there twice, negative or too great.
func badWaysPerms() [][]int {
	bad := [][]int{nil, {}, {0, 0}, {1, 1}, {1, 2}, {2, 0}, {-1, 0}, {-1, -1}, {1, 2, 3, 4}, {0, 0, 1, 1}, make([]int, 1000)}
	for length := range 40 {
		if length != 2 && length != 4 && length != 8 {
			bad = append(bad, ascending(length), descending(length), make([]int, length))
		}
	}
	for _, lines := range waysOfLines {
		for _, p := range [][]int{ascending(lines), descending(lines)} {
			for place := range p {
				for _, n := range []int{math.MinInt, -lines, -1, lines, lines + 1, 8, 9, 64, math.MaxInt, p[(place+1)%lines], p[(place+lines-1)%lines]} {
					if q := slices.Clone(p); n != p[place] {
						q[place] = n
						bad = append(bad, q)
					}
				}
			}
		}
	}
	return bad
}

// setWithRoom returns the same settings with other ones in the spare memory behind them.
func setWithRoom(set []bool) []bool {
	all := append(slices.Clone(set), true, false, true)
	return all[:len(set)]
}

// overwriteSet turns over all memory of a list of settings.
func overwriteSet(set []bool) {
	for k := range set[:cap(set)] {
		set[:cap(set)][k] = !set[:cap(set)][k]
	}
}

// setFunctions are all functions that take settings.
func setFunctions(lines int, set []bool) {
	impl.LoopRun(lines, set)
	impl.StepRun(lines, set)
}

// listFunctions are all functions of networks of switches that take a list of numbers.
func listFunctions(p []int) {
	impl.LoopSet(p)
	impl.StepClashes(p)
	impl.StepSet(p)
}
