package tests

import (
	"slices"
	"strings"
	"testing"

	"loop.example/circuitswitching/impl"
)

func TestConstantsOfNumberingPlans(t *testing.T) {
	if impl.Digits != 4 || impl.MaxLong != mostLong || impl.MaxNumbers != mostNumbers || impl.MaxOften != mostOften || impl.MaxRoutes != mostRoutes {
		t.Fatal(impl.Digits, impl.MaxLong, impl.MaxNumbers, impl.MaxOften, impl.MaxRoutes)
	}
}

// Promise 63, DigitsOk: digits stay digits; a beginning of a text of digits is one, and with a 4 behind it a text is none.
func TestDigitsStayDigits(t *testing.T) {
	row := &numbers{state: 79}
	texts := append(begins(), strings.Repeat("3210", 5000))
	for k := range 300 {
		texts = append(texts, anyDigits(row, k%50))
	}
	for _, s := range texts {
		for length := range min(len(s), 60) + 1 {
			if !impl.DigitsOk(s[:length]) {
				t.Fatal(s[:length])
			}
		}
		if !impl.DigitsOk(s) || impl.DigitsOk(s+"4") || impl.DigitsOk("4"+s) {
			t.Fatal(s)
		}
	}
}

// One byte that is no digit is enough, at whatever place it is.
func TestTextsWithOtherBytes(t *testing.T) {
	for _, wrong := range noDigits() {
		for _, s := range []string{"", "0", "12", "333", "0123012301"} {
			for place := range len(s) + 1 {
				if text := s[:place] + wrong + s[place:]; impl.DigitsOk(text) {
					t.Fatalf("%q", text)
				}
			}
		}
	}
}

// PlanValid tells plans from what is none.
func TestPlanValid(t *testing.T) {
	answers := [2]int{}
	check := func(plan []string) {
		want := isPlan(plan)
		if impl.PlanValid(plan) != want {
			t.Fatal(plan, want)
		}
		if want {
			answers[1]++
		} else {
			answers[0]++
		}
	}
	texts := append(begins(), "4", "04", "0000", "1230", " ")
	for _, a := range texts {
		check([]string{a})
		for _, b := range texts {
			check([]string{a, b})
		}
	}
	row := &numbers{state: 83}
	for k := range 5000 {
		plan := growPlan(row, nil, 1+k%9, allNumbers())
		check(slices.Insert(plan, row.below(len(plan)+1), texts[row.below(len(texts))]))
	}
	if answers[0] < 2000 || answers[1] < 2000 {
		t.Fatal("too few plans of one kind", answers)
	}
	plans(func(plan []string) {
		if !impl.PlanValid(plan) {
			t.Fatal(plan)
		}
	})
	badPlans(func(plan []string) {
		if impl.PlanValid(plan) {
			t.Fatal(plan)
		}
	})
}

// Promise 21, PlanValid: no plan has more shares than there are; and without its first number a valid plan is valid.
func TestNoPlanHasMoreSharesThanThereAre(t *testing.T) {
	full := 0
	plans(func(plan []string) {
		shares := impl.ShareSum(impl.PlanLengths(plan))
		begun := 0
		for _, text := range textsOf(mostLong) {
			if slices.ContainsFunc(plan, func(number string) bool { return strings.HasPrefix(text, number) }) {
				begun++
			}
		}
		if shares < 0 || shares > allShares || shares != begun {
			t.Fatal(plan, shares, begun)
		}
		if shares == allShares {
			full++
		}
		if len(plan) > 0 && !impl.PlanValid(plan[1:]) {
			t.Fatal(plan)
		}
	})
	if full == 0 {
		t.Fatal("no plan has all shares")
	}
}

// Promise 64, LengthsValid: numbers can be given up; without the first one valid lengths are valid, and with one of no digits they are not.
func TestNumbersCanBeGivenUp(t *testing.T) {
	lengthLists(func(lengths []int) {
		if !impl.LengthsValid(lengths) || len(lengths) > 0 && !impl.LengthsValid(lengths[1:]) {
			t.Fatal(lengths)
		}
		for place := range len(lengths) + 1 {
			if impl.LengthsValid(slices.Insert(slices.Clone(lengths), place, 0)) || impl.LengthsValid(slices.Insert(slices.Clone(lengths), place, 4)) {
				t.Fatal(lengths)
			}
			if impl.LengthsValid(slices.Insert(slices.Clone(lengths), place, 2)) != (len(lengths) < 10) {
				t.Fatal(lengths)
			}
		}
	})
	for _, lengths := range badLengths() {
		if impl.LengthsValid(lengths) {
			t.Fatal(lengths)
		}
	}
}

// Promise 65, ShareSum: shorter numbers have greater shares; those of two parts are together those of all.
func TestShorterNumbersHaveGreaterShares(t *testing.T) {
	lengthLists(func(lengths []int) {
		sum := impl.ShareSum(lengths)
		if sum != sharesOf(lengths, mostLong) {
			t.Fatal(lengths, sum)
		}
		for place, length := range lengths {
			shorter := slices.Clone(lengths)
			shorter[place]--
			if length > 1 && impl.ShareSum(shorter) <= sum || length == 1 && impl.ShareSum(shorter) != -1 {
				t.Fatal(lengths, shorter)
			}
			if impl.ShareSum(lengths[:place])+impl.ShareSum(lengths[place:]) != sum {
				t.Fatal(lengths, place)
			}
		}
	})
	for _, c := range [][2]int{{1, 16}, {2, 4}, {3, 1}} {
		if sum := impl.ShareSum(c[:1]); sum != c[1] {
			t.Fatal(c, sum)
		}
	}
	if impl.ShareSum(nil) != 0 || impl.ShareSum([]int{}) != 0 || impl.ShareSum(slices.Repeat([]int{1}, 10)) != 160 {
		t.Fatal("no lengths, or many short ones")
	}
	for _, lengths := range badLengths() {
		if sum := impl.ShareSum(lengths); sum != -1 {
			t.Fatal(lengths, sum)
		}
	}
}

// Promise 22, PlanFor: lengths whose shares are not too great have a plan, and others have none.
func TestLengthsWhoseSharesAreNotTooGreatHaveAPlan(t *testing.T) {
	answers := [2]int{}
	lengthLists(func(lengths []int) {
		plan, ok := impl.PlanFor(lengths)
		if ok != (impl.ShareSum(lengths) <= allShares) || ok != hasPlan(slices.Sorted(slices.Values(lengths)), nil) {
			t.Fatal(lengths, plan, ok)
		}
		if !ok {
			answers[0]++
			if len(plan) != 0 {
				t.Fatal(lengths, plan)
			}
			return
		}
		answers[1]++
		if !impl.PlanValid(plan) || !isPlan(plan) || !slices.Equal(impl.PlanLengths(plan), lengths) {
			t.Fatal(lengths, plan)
		}
		if want := wantPlan(lengths); !slices.Equal(plan, want) {
			t.Fatal(lengths, plan, want)
		}
	})
	if answers[0] < 50 || answers[1] < 500 {
		t.Fatal("too few lists of one kind", answers)
	}
	for _, lengths := range badLengths() {
		if plan, ok := impl.PlanFor(lengths); ok || len(plan) != 0 {
			t.Fatal(lengths, plan, ok)
		}
	}
}

// Plans that were found by hand: by ascending lengths, and those of the same length in their order.
func TestPlansByHand(t *testing.T) {
	cases := []struct {
		lengths []int
		plan    string
	}{
		{nil, ""},
		{[]int{1}, "0"},
		{[]int{2}, "00"},
		{[]int{3}, "000"},
		{[]int{3, 3}, "000 001"},
		{[]int{3, 2, 1}, "110 10 0"},
		{[]int{1, 2, 3}, "0 10 110"},
		{[]int{2, 1, 2, 1}, "20 0 21 1"},
		{[]int{1, 1, 1, 1}, "0 1 2 3"},
		{[]int{3, 3, 3, 3, 3, 2}, "010 011 012 013 020 00"},
		{[]int{3, 1, 1, 3, 1, 3}, "300 0 1 301 2 302"},
		{[]int{1, 1, 1, 2, 2, 2, 3, 3, 3, 3}, "0 1 2 30 31 32 330 331 332 333"},
		{[]int{3, 2, 3, 2, 3, 1, 2, 1, 3, 1}, "330 30 331 31 332 0 32 1 333 2"},
		{slices.Repeat([]int{2}, 10), "00 01 02 03 10 11 12 13 20 21"},
	}
	for _, c := range cases {
		if plan, ok := impl.PlanFor(c.lengths); !ok || !slices.Equal(plan, strings.Fields(c.plan)) {
			t.Fatal(c.lengths, plan, ok)
		}
	}
	for _, lengths := range [][]int{{1, 1, 1, 1, 1}, {1, 1, 1, 1, 3}, {3, 1, 1, 1, 1}, {2, 1, 2, 1, 2, 1, 2, 2}, {1, 1, 1, 2, 2, 2, 3, 2, 3, 1}, slices.Repeat([]int{1}, 10)} {
		if plan, ok := impl.PlanFor(lengths); ok || len(plan) != 0 {
			t.Fatal(lengths, plan, ok)
		}
	}
}

// Promise 66, PlanLengths: every number has a length; there are as many as numbers, and PlanFor finds a plan with them.
func TestEveryNumberHasALength(t *testing.T) {
	plans(func(plan []string) {
		lengths := impl.PlanLengths(plan)
		if len(lengths) != len(plan) {
			t.Fatal(plan, lengths)
		}
		for k, number := range plan {
			if lengths[k] != len(number) {
				t.Fatal(plan, lengths)
			}
		}
		if found, ok := impl.PlanFor(lengths); !ok || !slices.Equal(impl.PlanLengths(found), lengths) {
			t.Fatal(plan, lengths, found, ok)
		}
	})
}

// Promise 67, DialOne: a complete number is known at once, whatever is dialled behind it.
func TestACompleteNumberIsKnownAtOnce(t *testing.T) {
	row := &numbers{state: 89}
	plans(func(plan []string) {
		for want, number := range plan {
			for _, behind := range []string{"", "0", "3", anyDigits(row, 2), anyDigits(row, 9), number} {
				k, digits := impl.DialOne(plan, number+behind)
				if k != want || digits != len(number) {
					t.Fatal(plan, number, behind, k, digits)
				}
			}
			for other, begin := range plan {
				if other != want && strings.HasPrefix(number, begin) {
					t.Fatal(plan)
				}
			}
			if k, digits := impl.DialOne(plan, number[:len(number)-1]); k != -1 || digits != 0 {
				t.Fatal(plan, number, k, digits)
			}
		}
		s := anyDigits(row, row.below(6))
		k, digits := impl.DialOne(plan, s)
		if want, length := wantNumber(plan, s); k != want || digits != length {
			t.Fatal(plan, s, k, digits)
		}
	})
}

// All texts of a few digits, dialled in small plans and in full ones.
func TestDialOneOfAllTexts(t *testing.T) {
	for _, plan := range [][]string{nil, {"1"}, {"20"}, {"333"}, {"0", "1", "2", "3"}, {"110", "0", "10", "111"}, {"3", "20"}, textsOf(2)[:10], textsOf(3)[54:]} {
		for length := range 6 {
			for _, s := range textsOf(length) {
				k, digits := impl.DialOne(plan, s)
				if want, many := wantNumber(plan, s); k != want || digits != many {
					t.Fatal(plan, s, k, digits)
				}
			}
		}
	}
	if k, digits := impl.DialOne([]string{"00", "01"}, "01"+strings.Repeat("3", 100000)); k != 1 || digits != 2 {
		t.Fatal(k, digits)
	}
}

// Promise 23, DialAll: numbers one behind the other are read, and in one way alone.
func TestNumbersOneBehindTheOtherAreRead(t *testing.T) {
	row := &numbers{state: 97}
	answers := [2]int{}
	plans(func(plan []string) {
		texts := []string{"", anyDigits(row, 1+row.below(6))}
		for range 2 {
			said := make([]int, row.below(9))
			for k := range said {
				if len(plan) == 0 {
					said = nil
					break
				}
				said[k] = row.below(len(plan))
			}
			text := spoken(plan, said)
			if list, ok := impl.DialAll(plan, text); !ok || !slices.Equal(list, said) {
				t.Fatal(plan, said, list, ok)
			}
			texts = append(texts, text, text[:row.below(len(text)+1)], text+anyDigits(row, 1))
		}
		for _, s := range texts {
			list, ok := impl.DialAll(plan, s)
			ways := readings(plan, s)
			if len(ways) > 1 || ok != (len(ways) == 1) {
				t.Fatal(plan, s, ways, list, ok)
			}
			if !ok {
				answers[0]++
				if len(list) != 0 {
					t.Fatal(plan, s, list)
				}
				continue
			}
			answers[1]++
			if !slices.Equal(list, ways[0]) || spoken(plan, list) != s {
				t.Fatal(plan, s, list)
			}
		}
	})
	if answers[0] < 5000 || answers[1] < 5000 {
		t.Fatal("too few texts of one kind", answers)
	}
}

// The empty text is read as no numbers, also in the plan of no numbers, which reads nothing else.
func TestTheEmptyTextIsNoNumbers(t *testing.T) {
	for _, plan := range [][]string{nil, {}, {"2"}, {"00"}, {"123"}, {"110", "0", "10", "111"}} {
		if list, ok := impl.DialAll(plan, ""); !ok || len(list) != 0 {
			t.Fatal(plan, list, ok)
		}
		if k, digits := impl.DialOne(plan, ""); k != -1 || digits != 0 {
			t.Fatal(plan, k, digits)
		}
	}
	for _, s := range allNumbers() {
		if list, ok := impl.DialAll(nil, s); ok || len(list) != 0 {
			t.Fatal(s, list, ok)
		}
	}
}

// A plan of one number reads only this one, again and again.
func TestPlansOfOneNumber(t *testing.T) {
	for _, number := range allNumbers() {
		plan := []string{number}
		if !impl.PlanValid(plan) || !slices.Equal(impl.PlanLengths(plan), []int{len(number)}) {
			t.Fatal(plan)
		}
		for many := range 8 {
			text := strings.Repeat(number, many)
			if list, ok := impl.DialAll(plan, text); !ok || !slices.Equal(list, make([]int, many)) {
				t.Fatal(plan, text, list, ok)
			}
			cut := text + number[:len(number)-1]
			if list, ok := impl.DialAll(plan, cut); ok != (len(number) == 1) || len(list) != 0 && !ok {
				t.Fatal(plan, cut, list, ok)
			}
		}
	}
}

// Texts have any number of digits.
func TestLongTextsAreRead(t *testing.T) {
	plan := []string{"110", "0", "10", "111"}
	said := slices.Repeat([]int{3, 1, 0, 2, 2, 1}, 50000)
	text := spokenAtOnce(plan, said)
	if list, ok := impl.DialAll(plan, text); !ok || !slices.Equal(list, said) {
		t.Fatal(len(list), ok)
	}
	for _, end := range []string{"1", "11", "2", "4", "x"} {
		if list, ok := impl.DialAll(plan, text+end); ok || len(list) != 0 {
			t.Fatal(end, len(list), ok)
		}
	}
}

// spokenAtOnce is spoken for many numbers.
func spokenAtOnce(plan []string, list []int) string {
	text := strings.Builder{}
	for _, k := range list {
		text.WriteString(plan[k])
	}
	return text.String()
}

// Texts with other bytes are not dialled, even if they begin with a number.
func TestTextsWithOtherBytesAreNotDialled(t *testing.T) {
	for _, plan := range [][]string{nil, {"1"}, {"0", "1", "2", "3"}, {"110", "0", "10", "111"}} {
		for _, wrong := range noDigits() {
			for _, s := range []string{wrong, "0" + wrong, wrong + "0", "10" + wrong + "10", "111" + wrong, "0101100" + wrong} {
				if k, digits := impl.DialOne(plan, s); k != -1 || digits != 0 {
					t.Fatalf("%q %d %d", s, k, digits)
				}
				if list, ok := impl.DialAll(plan, s); ok || len(list) != 0 {
					t.Fatalf("%q %v", s, list)
				}
			}
		}
	}
}

// For plans that are not valid there is one fixed result, also for the empty text.
func TestPlansThatAreNotValid(t *testing.T) {
	badPlans(func(plan []string) {
		if lengths := impl.PlanLengths(plan); len(lengths) != 0 {
			t.Fatal(plan, lengths)
		}
		texts := []string{"", "0", "1", "4", "10", "0000", "012301"}
		for _, s := range append(texts, plan[:min(len(plan), 12)]...) {
			if k, digits := impl.DialOne(plan, s); k != -1 || digits != 0 {
				t.Fatal(plan, s, k, digits)
			}
			if list, ok := impl.DialAll(plan, s); ok || len(list) != 0 {
				t.Fatal(plan, s, list, ok)
			}
		}
	})
}

// Promise 68, OftenValid: nobody has to be dialled; but one subscriber alone is too few.
func TestNobodyHasToBeDialled(t *testing.T) {
	for many := range 40 {
		for _, times := range []int{0, 1, 99} {
			if impl.OftenValid(slices.Repeat([]int{times}, many)) != (many >= 2 && many <= 10) {
				t.Fatal(many, times)
			}
		}
	}
	oftenLists(func(often []int) {
		if !impl.OftenValid(often) || !impl.OftenValid(make([]int, len(often))) {
			t.Fatal(often)
		}
	})
	for times := -150; times < 250; times++ {
		if impl.OftenValid([]int{times}) || impl.OftenValid([]int{times, 0}) != (times >= 0 && times <= 99) || impl.OftenValid([]int{1, times}) != (times >= 0 && times <= 99) {
			t.Fatal(times)
		}
	}
	for _, often := range badOften() {
		if impl.OftenValid(often) {
			t.Fatal(often)
		}
	}
}

// Promise 24, DialCost: no plan is cheaper than DialLeast; all lengths of few subscribers, and those of plans for many.
func TestNoPlanIsCheaper(t *testing.T) {
	row := &numbers{state: 101}
	oftenLists(func(often []int) {
		least := impl.DialLeast(often)
		reached := false
		check := func(lengths []int) {
			cost := impl.DialCost(often, lengths)
			sum := 0
			for k, length := range lengths {
				sum += often[k] * length
			}
			if cost != sum {
				t.Fatal(often, lengths, cost)
			}
			if _, ok := impl.PlanFor(lengths); ok {
				if cost < least {
					t.Fatal(often, lengths, cost, least)
				}
				reached = reached || cost == least
			}
		}
		if len(often) <= 5 {
			countingLengths(len(often), mostLong, check)
		} else {
			// The rarest ones have the longest numbers in the cheapest plan; in any order lengths cost something.
			order := ascending(len(often))
			slices.SortStableFunc(order, func(a, b int) int { return often[b] - often[a] })
			ascendingLengths(len(often), mostLong, func(lengths []int) {
				placed, mixed := make([]int, len(often)), make([]int, len(often))
				by := row.perm(len(often))
				for k, length := range lengths {
					placed[order[k]], mixed[by[k]] = length, length
				}
				check(placed)
				check(mixed)
			})
		}
		if !reached {
			t.Fatal("no plan costs just the least", often, least)
		}
	})
}

// DialLeast is the least sum over all plans, whose numbers may be longer than MaxLong, too.
func TestDialLeastIsTheLeastSum(t *testing.T) {
	oftenLists(func(often []int) {
		if least, want := impl.DialLeast(often), leastCost(often); least != want {
			t.Fatal(often, least, want)
		}
	})
}

// Groups that were joined by hand: the first time two, three or four, and then always four.
func TestGroupsJoinedByHand(t *testing.T) {
	cases := []struct {
		often []int
		least int
	}{
		{[]int{0, 0}, 0},
		{[]int{7, 0}, 7},
		{[]int{3, 4}, 7},
		{[]int{1, 2, 3}, 6},
		{[]int{99, 99, 99, 99}, 396},
		{[]int{9, 1, 2, 3, 4}, 3 + 19},
		{[]int{1, 2, 3, 4, 9, 20}, 6 + 39},
		{[]int{1, 1, 1, 1, 1, 1, 1}, 4 + 7},
		{[]int{1, 1, 1, 1, 1, 1, 1, 1}, 2 + 4 + 8},
		{[]int{1, 2, 3, 4, 5, 6, 7, 8, 9}, 6 + 21 + 45},
		{[]int{0, 0, 0, 0, 0, 0, 0, 0, 0, 5}, 5},
		{[]int{1, 1, 2, 4, 8, 16, 32, 64, 99, 99}, 8 + 64 + 326},
		{slices.Repeat([]int{99}, 10), 396 + 396 + 990},
		{slices.Repeat([]int{0}, 10), 0},
	}
	for _, c := range cases {
		if least := impl.DialLeast(c.often); least != c.least {
			t.Fatal(c.often, least, c.least)
		}
	}
}

// Promise 69, DialLeast: who is dialled more costs more, and at least the sum of all, for at most four subscribers just that.
func TestWhoIsDialledMoreCostsMore(t *testing.T) {
	oftenLists(func(often []int) {
		least, sum := impl.DialLeast(often), 0
		lengths := slices.Repeat([]int{3}, len(often))
		cost := impl.DialCost(often, lengths)
		for k, times := range often {
			sum += times
			more := slices.Clone(often)
			more[k]++
			if times == 99 {
				if impl.DialLeast(more) != -1 || impl.DialCost(more, lengths) != -1 {
					t.Fatal(more)
				}
			} else if impl.DialLeast(more) < least+1 || impl.DialCost(more, lengths) != cost+3 {
				t.Fatal(often, more)
			}
		}
		if least < sum || len(often) <= 4 && least != sum {
			t.Fatal(often, least, sum)
		}
		other := slices.Clone(often)
		slices.Reverse(other)
		if impl.DialLeast(other) != least {
			t.Fatal(often, other)
		}
	})
}

// For other lists, and for lengths that are not one for each subscriber, there is one fixed result.
func TestCostsOfOtherLists(t *testing.T) {
	for _, often := range badOften() {
		if least := impl.DialLeast(often); least != -1 {
			t.Fatal(often, least)
		}
		for _, lengths := range [][]int{nil, slices.Repeat([]int{1}, len(often)), slices.Repeat([]int{3}, min(len(often), 10)), {1, 2}} {
			if cost := impl.DialCost(often, lengths); cost != -1 {
				t.Fatal(often, lengths, cost)
			}
		}
	}
	oftenLists(func(often []int) {
		for many := range 13 {
			if cost := impl.DialCost(often, slices.Repeat([]int{2}, many)); many != len(often) && cost != -1 {
				t.Fatal(often, many, cost)
			}
		}
	})
	for _, lengths := range badLengths() {
		for _, many := range []int{len(lengths), 2, 10} {
			if cost := impl.DialCost(slices.Repeat([]int{1}, many), lengths); cost != -1 {
				t.Fatal(lengths, cost)
			}
		}
	}
	// Lengths cost something also if no plan has them.
	if cost := impl.DialCost([]int{1, 2, 3, 4, 5}, []int{1, 1, 1, 1, 1}); cost != 15 {
		t.Fatal(cost)
	}
}

// plansApart fails the test if results share memory with the arguments or with each other, or if an argument was written to.
func plansApart(t *testing.T, plan []string, lengths []int, often []int, s string) {
	t.Helper()
	plan = roomBehind(plan, "3", "22", "")
	lengths, often = roomBehind(lengths, 101, 102), roomBehind(often, 103, 104)
	planBefore, lengthsBefore, oftenBefore := slices.Clone(plan[:cap(plan)]), slices.Clone(lengths[:cap(lengths)]), slices.Clone(often[:cap(often)])
	unchanged := func() {
		t.Helper()
		sameMemory(t, "a plan", plan, planBefore)
		sameMemory(t, "a list of lengths", lengths, lengthsBefore)
		sameMemory(t, "a list of how often", often, oftenBefore)
	}
	impl.PlanValid(plan)
	impl.LengthsValid(lengths)
	impl.OftenValid(often)
	impl.ShareSum(lengths)
	impl.DialOne(plan, s)
	impl.DialCost(often, lengths)
	least := impl.DialLeast(often)
	results := func() ([][]int, []string) {
		list, _ := impl.DialAll(plan, s)
		found, _ := impl.PlanFor(lengths)
		return [][]int{list, impl.PlanLengths(plan)}, found
	}
	lists, found := results()
	others, otherPlan := results()
	wanted, wantedPlan := cloneTable(lists), slices.Clone(found)
	unchanged()
	apart(t, "result", append(slices.Clone(others), lists...))
	filled(otherPlan, "overwritten")
	if !slices.Equal(found, wantedPlan) {
		t.Fatal("plans share memory", lengths)
	}
	filled(found, "overwritten")
	unchanged()
	if again, plan := results(); !sameTable(again, wanted) || !slices.Equal(plan, wantedPlan) || impl.DialLeast(often) != least {
		t.Fatal("a result was kept", again, plan)
	}
}

func TestPlansAreNotWrittenToAndNotShared(t *testing.T) {
	row := &numbers{state: 103}
	lists := [][]int{}
	oftenLists(func(often []int) { lists = append(lists, often) })
	lists = append(lists, badOften()...)
	count := 0
	plans(func(plan []string) {
		count++
		often := lists[count%len(lists)]
		lengths := make([]int, row.below(12))
		for k := range lengths {
			lengths[k] = 1 + row.below(3)
		}
		said := make([]int, min(len(plan), row.below(9)))
		plansApart(t, plan, lengths, often, spoken(plan, said))
		plansApart(t, plan, often, lengths, anyDigits(row, 5))
	})
	badPlans(func(plan []string) {
		plansApart(t, plan, badLengths()[row.below(20)], lists[row.below(len(lists))], "0123")
	})
}
