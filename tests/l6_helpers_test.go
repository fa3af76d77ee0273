package tests

import (
	"math"
	"slices"
	"strings"
	"testing"
)

// The constants of chapter 6 written out, so that changed ones are noticed.
const (
	mostLong    = 3
	mostNumbers = 10
	mostOften   = 99
	allShares   = 64
)

// textsOf returns all texts of so many digits, in their order.
func textsOf(length int) []string {
	texts := []string{""}
	for range length {
		longer := []string{}
		for _, text := range texts {
			for _, digit := range []string{"0", "1", "2", "3"} {
				longer = append(longer, text+digit)
			}
		}
		texts = longer
	}
	return texts
}

// allNumbers returns all texts that may be numbers of a plan.
func allNumbers() []string {
	return slices.Concat(textsOf(1), textsOf(2), textsOf(3))
}

// begins returns all texts that may be the Begin of a route.
func begins() []string {
	return append([]string{""}, allNumbers()...)
}

// noDigits returns texts of one byte, or a few, that are no digits.
func noDigits() []string {
	texts := []string{"\u0660", "\uff10", "\u00b2", "four"}
	for c := range 256 {
		if c < '0' || c > '3' {
			texts = append(texts, string([]byte{byte(c)}))
		}
	}
	return texts
}

// meets tells whether one of two texts begins with the other one.
func meets(a string, b string) bool {
	least := min(len(a), len(b))
	return a[:least] == b[:least]
}

// growPlan appends numbers in any order, as long as they don't meet another one, up to so many.
func growPlan(row *numbers, plan []string, many int, from []string) []string {
	for range 40 {
		number := from[row.below(len(from))]
		if len(plan) < many && !slices.ContainsFunc(plan, func(other string) bool { return meets(number, other) }) {
			plan = append(plan, number)
		}
	}
	return plan
}

// plans visits valid plans: none, one and two numbers, and plans of many numbers, also those to which none can be added.
func plans(visit func(plan []string)) {
	visit(nil)
	all := allNumbers()
	for k, a := range all {
		visit([]string{a})
		for _, b := range all[k%5:] {
			if !meets(a, b) {
				visit([]string{a, b})
			}
		}
	}
	visit([]string{"3", "2", "1", "0"})
	visit([]string{"0", "1", "2", "33", "32", "31", "303", "302", "301", "300"})
	visit(textsOf(3)[27:37])
	row := &numbers{state: 61}
	for k := range 4000 {
		from := all
		if k%2 == 0 {
			from = all[:4+row.below(40)]
		}
		visit(growPlan(row, nil, 1+row.below(mostNumbers), from))
	}
}

// badPlans visits plans that are none: of too many numbers, of other texts than numbers, and with a number that begins with another one.
func badPlans(visit func(plan []string)) {
	visit(textsOf(3)[:mostNumbers+1])
	visit(textsOf(3))
	visit(make([]string, 1000))
	row := &numbers{state: 67}
	good := [][]string{nil, {"2"}, {"0", "10"}, {"113", "10", "0"}, textsOf(2)[:9], textsOf(3)[9:18]}
	for range 20 {
		good = append(good, growPlan(row, nil, 9, allNumbers()))
	}
	for _, plan := range good {
		for place := range len(plan) + 1 {
			wrong := []string{"", "0000", "1230", "3333", strings.Repeat("2", 1000)}
			wrong = append(wrong, "4", "/", "9", ":", " ", "-1", "+1", "1 ", " 1", "0\n", "\x00", "\xff", "\u0660", "a", "0a", "14", "04", "204", "1x1", "400")
			for _, number := range plan {
				wrong = append(wrong, number, number[:1])
				if len(number) < mostLong {
					wrong = append(wrong, number+"0", number+"3")
				}
			}
			for _, text := range wrong {
				visit(slices.Insert(slices.Clone(plan), place, text))
			}
		}
	}
}

// isPlan tells whether a plan is one, by the numbers of MaxLong digits that begin with its numbers: none may begin with two.
func isPlan(plan []string) bool {
	if len(plan) > mostNumbers {
		return false
	}
	all := allNumbers()
	taken := map[string]bool{}
	for _, number := range plan {
		if !slices.Contains(all, number) {
			return false
		}
		for _, text := range textsOf(mostLong - len(number)) {
			if taken[number+text] {
				return false
			}
			taken[number+text] = true
		}
	}
	return true
}

// wantNumber tells which number of a plan a text begins with, and how long that is, by all beginnings of the text.
func wantNumber(plan []string, s string) (int, int) {
	for length := range min(len(s), mostLong) + 1 {
		if k := slices.Index(plan, s[:length]); k >= 0 {
			return k, length
		}
	}
	return -1, 0
}

// readings returns all rows of numbers of a plan that are a text behind each other.
func readings(plan []string, s string) [][]int {
	if s == "" {
		return [][]int{{}}
	}
	rows := [][]int{}
	for k, number := range plan {
		if strings.HasPrefix(s, number) {
			for _, row := range readings(plan, s[len(number):]) {
				rows = append(rows, append([]int{k}, row...))
			}
		}
	}
	return rows
}

// spoken returns numbers of a plan behind each other.
func spoken(plan []string, list []int) string {
	text := ""
	for _, k := range list {
		text += plan[k]
	}
	return text
}

// anyDigits returns a text of so many digits.
func anyDigits(row *numbers, many int) string {
	text := ""
	for range many {
		text += string([]byte{'0' + byte(row.below(4))})
	}
	return text
}

// lengthLists visits valid lengths: all of at most 6 numbers, all ascending ones of more, and some in another order.
func lengthLists(visit func(lengths []int)) {
	for many := range 7 {
		countingLengths(many, mostLong, visit)
	}
	row := &numbers{state: 71}
	for many := 7; many <= mostNumbers; many++ {
		ascendingLengths(many, mostLong, func(lengths []int) {
			visit(lengths)
			for range 3 {
				mixed := make([]int, many)
				for k, place := range row.perm(many) {
					mixed[k] = lengths[place]
				}
				visit(mixed)
			}
		})
	}
}

// countingLengths visits all lists of so many lengths.
func countingLengths(many int, longest int, visit func(lengths []int)) {
	if many == 0 {
		visit(nil)
		return
	}
	countingLengths(many-1, longest, func(lengths []int) {
		for length := 1; length <= longest; length++ {
			visit(append(slices.Clone(lengths), length))
		}
	})
}

// ascendingLengths visits all lists of so many lengths of which none is less than the one before.
func ascendingLengths(many int, longest int, visit func(lengths []int)) {
	if many == 0 {
		visit(nil)
		return
	}
	ascendingLengths(many-1, longest, func(lengths []int) {
		for length := max(1, slices.Max(append(slices.Clone(lengths), 1))); length <= longest; length++ {
			visit(append(slices.Clone(lengths), length))
		}
	})
}

// badLengths returns lists that are no lengths of numbers: too many, or one of them not in 1..MaxLong.
func badLengths() [][]int {
	bad := [][]int{slices.Repeat([]int{3}, mostNumbers+1), slices.Repeat([]int{1}, mostNumbers+1), slices.Repeat([]int{2}, 1000)}
	for _, lengths := range [][]int{nil, {1}, {3, 2}, {1, 2, 3}, slices.Repeat([]int{3}, 9), {1, 1, 1, 1}} {
		for place := range len(lengths) + 1 {
			for _, length := range []int{0, -1, 4, 5, -3, math.MinInt, math.MaxInt} {
				bad = append(bad, slices.Insert(slices.Clone(lengths), place, length))
			}
		}
	}
	return bad
}

// sharesOf counts the numbers of so many digits that begin with numbers of some lengths.
func sharesOf(lengths []int, longest int) int {
	sum := 0
	for _, length := range lengths {
		sum += 1 << (2 * (longest - length))
	}
	return sum
}

// wantPlan tries for each length all numbers, from the least one on; nil if there is none.
func wantPlan(lengths []int) []string {
	plan := make([]string, len(lengths))
	found := []string{}
	for length := 1; length <= mostLong; length++ {
		for k := range lengths {
			if lengths[k] != length {
				continue
			}
			least := slices.IndexFunc(textsOf(length), func(number string) bool {
				padded := number + strings.Repeat("0", mostLong-length)
				return !slices.ContainsFunc(found, func(begin string) bool { return strings.HasPrefix(padded, begin) })
			})
			if least < 0 {
				return nil
			}
			plan[k] = textsOf(length)[least]
			found = append(found, plan[k])
		}
	}
	return plan
}

// hasPlan searches all plans of ascending lengths.
func hasPlan(lengths []int, plan []string) bool {
	if len(lengths) == len(plan) {
		return true
	}
	for _, number := range textsOf(lengths[len(plan)]) {
		if !slices.ContainsFunc(plan, func(other string) bool { return meets(number, other) }) && hasPlan(lengths, append(plan, number)) {
			return true
		}
	}
	return false
}

// oftenLists visits lists that tell how often at least two subscribers are dialled.
func oftenLists(visit func(often []int)) {
	for a := range 7 {
		for b := range 7 {
			visit([]int{a, b})
			visit([]int{a, 99, b})
			visit([]int{a, b, 3, 1, b})
		}
	}
	row := &numbers{state: 73}
	for many := 2; many <= mostNumbers; many++ {
		for _, times := range []int{0, 1, 2, 50, 99} {
			visit(slices.Repeat([]int{times}, many))
		}
		for _, most := range []int{2, 3, 5, 20, 100} {
			for range 12 {
				often := make([]int, many)
				for k := range often {
					often[k] = row.below(most)
				}
				visit(often)
			}
		}
		doubling := make([]int, many)
		for k := range doubling {
			doubling[k] = min(99, 1<<k)
		}
		visit(doubling)
	}
}

// badOften returns lists that don't tell how often subscribers are dialled: too few or too many, or one of them not in 0..MaxOften.
func badOften() [][]int {
	bad := [][]int{nil, {}, {0}, {5}, {99}, {100}, {-1}, make([]int, mostNumbers+1), slices.Repeat([]int{7}, mostNumbers+1), make([]int, 1000)}
	for _, often := range [][]int{{1}, {0, 99}, {5, 5, 5}, slices.Repeat([]int{99}, 9)} {
		for place := range len(often) + 1 {
			for _, times := range []int{-1, 100, -99, math.MinInt, math.MaxInt} {
				bad = append(bad, slices.Insert(slices.Clone(often), place, times))
			}
		}
	}
	return bad
}

// leastCost tries all lengths up to 5 that have a plan, the longest ones for those who are dialled least.
func leastCost(often []int) int {
	rarest := slices.Sorted(slices.Values(often))
	slices.Reverse(rarest)
	least := math.MaxInt
	ascendingLengths(len(often), 5, func(lengths []int) {
		if sharesOf(lengths, 5) > 1024 {
			return
		}
		cost := 0
		for k, length := range lengths {
			cost += rarest[k] * length
		}
		least = min(least, cost)
	})
	return least
}

// roomBehind returns the same list with others in the spare memory behind it, which nobody may write to either.
func roomBehind[T any](list []T, others ...T) []T {
	all := append(slices.Clone(list), others...)
	return all[:len(list)]
}

// sameMemory fails the test if anything of the memory of a list is not what it was.
func sameMemory[T comparable](t *testing.T, what string, list []T, before []T) {
	t.Helper()
	if !slices.Equal(list[:cap(list)], before[:cap(list)]) {
		t.Fatalf("%s was written to: %v, not %v", what, list[:cap(list)], before)
	}
}

// filled fills all memory of a list with the same value.
func filled[T any](list []T, value T) {
	for k := range list[:cap(list)] {
		list[:cap(list)][k] = value
	}
}
