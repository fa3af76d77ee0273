package tests

import (
	"math"
	"math/big"
	"testing"

	"loop.example/circuitswitching/impl"
)

// mostLoad, mostTrunks and greatest are impl.MaxLoad, impl.MaxTrunks and the greatest Num and Den written out, so that changed bounds are noticed.
const (
	mostLoad   = 6
	mostTrunks = 8
	greatest   = 1000000000
)

// loads visits all loads with all numbers of lines.
func loads(visit func(load int, trunks int)) {
	for load := range mostLoad + 1 {
		for trunks := range mostTrunks + 1 {
			visit(load, trunks)
		}
	}
}

// badBounds returns numbers that are outside 0..most.
func badBounds(most int) []int {
	return []int{-1, -2, -most, -1 << 32, math.MinInt, most + 1, most + 2, 10 * most, 1 << 32, 1<<32 + 1, math.MaxInt}
}

// badLoads visits loads and numbers of lines of which at least one is outside its bounds.
func badLoads(visit func(load int, trunks int)) {
	for _, load := range badBounds(mostLoad) {
		for trunks := range mostTrunks + 1 {
			visit(load, trunks)
		}
		for _, trunks := range badBounds(mostTrunks) {
			visit(load, trunks)
		}
	}
	for load := range mostLoad + 1 {
		for _, trunks := range badBounds(mostTrunks) {
			visit(load, trunks)
		}
	}
}

// someFracs returns valid fractions: small ones, lowest terms or not, the greatest ones, and those that differ least.
func someFracs() []impl.Frac {
	all := []impl.Frac{}
	for num := range 8 {
		for den := 1; den < 8; den++ {
			all = append(all, impl.Frac{Num: num, Den: den})
		}
	}
	ends := []int{0, 1, 2, 65535, 65536, 500000000, greatest - 2, greatest - 1, greatest}
	for _, num := range ends {
		for _, den := range ends[1:] {
			all = append(all, impl.Frac{Num: num, Den: den})
		}
	}
	row := &numbers{state: 72}
	for range 60 {
		f := impl.Frac{Num: row.below(greatest + 1), Den: 1 + row.below(greatest)}
		all = append(all, f, impl.Frac{Num: f.Num, Den: f.Den%greatest + 1})
	}
	return all
}

// badFracs returns fractions of which Num, Den or both are outside their bounds.
func badFracs() []impl.Frac {
	nums := []int{-1, -2, -greatest, math.MinInt, greatest + 1, greatest + 2, 1 << 32, math.MaxInt}
	dens := []int{0, -1, -2, -greatest, math.MinInt, greatest + 1, greatest + 2, 1 << 32, math.MaxInt}
	all := []impl.Frac{}
	for _, num := range nums {
		for _, den := range append([]int{1, 2, 3, greatest}, dens...) {
			all = append(all, impl.Frac{Num: num, Den: den})
		}
	}
	for _, num := range []int{0, 1, 2, 3, greatest} {
		for _, den := range dens {
			all = append(all, impl.Frac{Num: num, Den: den})
		}
	}
	return all
}

func ratOf(f impl.Frac) *big.Rat {
	return big.NewRat(int64(f.Num), int64(f.Den))
}

// wantFrac fails the test if a result is not the fraction of two numbers in lowest terms, with true.
func wantFrac(t *testing.T, what string, f impl.Frac, ok bool, want *big.Rat) {
	t.Helper()
	if !ok || big.NewInt(int64(f.Num)).Cmp(want.Num()) != 0 || big.NewInt(int64(f.Den)).Cmp(want.Denom()) != 0 {
		t.Fatalf("%s: %v, %v, not %v in lowest terms", what, f, ok, want)
	}
}

// lineByLine tells the part that is lost by the part for one line less.
func lineByLine(load int, trunks int) *big.Rat {
	if trunks == 0 {
		return big.NewRat(1, 1)
	}
	further := new(big.Rat).Mul(big.NewRat(int64(load), 1), lineByLine(load, trunks-1))
	return new(big.Rat).Quo(further, new(big.Rat).Add(big.NewRat(int64(trunks), 1), further))
}

// allAtOnce tells it by how often each number of lines is busy, with nothing made whole.
func allAtOnce(load int, trunks int) *big.Rat {
	term, sum := big.NewRat(1, 1), big.NewRat(1, 1)
	for n := 1; n <= trunks; n++ {
		term = new(big.Rat).Mul(term, big.NewRat(int64(load), int64(n)))
		sum.Add(sum, term)
	}
	return new(big.Rat).Quo(term, sum)
}

// busyMean tells how many lines are busy in the mean.
func busyMean(parts []int) *big.Rat {
	sum, busy := int64(0), int64(0)
	for n, part := range parts {
		sum += int64(part)
		busy += int64(n) * int64(part)
	}
	return big.NewRat(busy, sum)
}

// wantTrunks returns the first number of lines for which no more than a part is lost, -1 if there is none.
func wantTrunks(load int, part *big.Rat) int {
	for trunks := range mostTrunks + 1 {
		if allAtOnce(load, trunks).Cmp(part) <= 0 {
			return trunks
		}
	}
	return -1
}

// nearParts visits parts that are as great as what is lost, in lowest terms and not, and those that are just less and just greater.
func nearParts(visit func(part impl.Frac)) {
	loads(func(load int, trunks int) {
		lost := allAtOnce(load, trunks)
		num, den := int(lost.Num().Int64()), int(lost.Denom().Int64())
		for _, times := range []int{1, 2, 7, greatest / den} {
			for _, more := range []int{-1, 0, 1} {
				part := impl.Frac{Num: num*times + more, Den: den * times}
				if part.Num >= 0 && part.Num <= greatest {
					visit(part)
				}
			}
		}
	})
}
