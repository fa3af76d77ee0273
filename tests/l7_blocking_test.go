package tests

import (
	"math/big"
	"slices"
	"testing"

	"loop.example/circuitswitching/impl"
)

func TestBlockingConstants(t *testing.T) {
	if impl.MaxLoad != mostLoad || impl.MaxTrunks != mostTrunks {
		t.Fatal(impl.MaxLoad, impl.MaxTrunks)
	}
}

// Promise 72, FracValid: with a Num of 0 a valid fraction is valid; with a Den of 0 it is not.
func TestFractionsMayBeNothing(t *testing.T) {
	for _, f := range someFracs() {
		if !impl.FracValid(f) {
			t.Fatal(f)
		}
		if !impl.FracValid(impl.Frac{Num: 0, Den: f.Den}) {
			t.Fatal("with a Num of 0", f)
		}
		if impl.FracValid(impl.Frac{Num: f.Num, Den: 0}) {
			t.Fatal("with a Den of 0", f)
		}
	}
}

func TestFracValidBounds(t *testing.T) {
	for _, f := range []impl.Frac{{Num: 0, Den: 1}, {Num: greatest, Den: 1}, {Num: 0, Den: greatest}, {Num: greatest, Den: greatest}, {Num: 6, Den: 4}} {
		if !impl.FracValid(f) {
			t.Fatal(f)
		}
	}
	for _, f := range append(badFracs(), impl.Frac{}) {
		if impl.FracValid(f) {
			t.Fatal(f)
		}
	}
}

// Promise 73, FracLess: of two fractions not both are less than the other one; and none is less than itself.
func TestFractionsHaveAnOrder(t *testing.T) {
	fracs := someFracs()
	for _, a := range fracs {
		if impl.FracLess(a, a) {
			t.Fatal("less than itself", a)
		}
		for _, b := range fracs {
			less, greater := impl.FracLess(a, b), impl.FracLess(b, a)
			if less && greater {
				t.Fatal("both are less", a, b)
			}
			order := ratOf(a).Cmp(ratOf(b))
			if less != (order < 0) || greater != (order > 0) {
				t.Fatal(a, b, less, greater)
			}
		}
	}
}

func TestFracLessCases(t *testing.T) {
	for _, c := range []struct {
		a, b impl.Frac
		less bool
	}{
		{impl.Frac{Num: 1, Den: 3}, impl.Frac{Num: 2, Den: 5}, true},
		{impl.Frac{Num: 2, Den: 5}, impl.Frac{Num: 1, Den: 3}, false},
		{impl.Frac{Num: 1, Den: 2}, impl.Frac{Num: 2, Den: 4}, false},
		{impl.Frac{Num: 0, Den: 1}, impl.Frac{Num: 0, Den: greatest}, false},
		{impl.Frac{Num: 0, Den: 7}, impl.Frac{Num: 1, Den: greatest}, true},
		{impl.Frac{Num: greatest - 1, Den: greatest}, impl.Frac{Num: 1, Den: 1}, true},
		{impl.Frac{Num: greatest - 2, Den: greatest - 1}, impl.Frac{Num: greatest - 1, Den: greatest}, true},
		{impl.Frac{Num: greatest, Den: greatest - 1}, impl.Frac{Num: greatest - 1, Den: greatest - 2}, true},
		{impl.Frac{Num: greatest, Den: greatest}, impl.Frac{Num: 1, Den: 1}, false},
		{impl.Frac{Num: 1, Den: greatest}, impl.Frac{Num: greatest, Den: 1}, true},
		{impl.Frac{Num: greatest, Den: 1}, impl.Frac{Num: 1, Den: greatest}, false},
	} {
		if impl.FracLess(c.a, c.b) != c.less {
			t.Fatal(c)
		}
	}
}

func TestFracLessOfOthers(t *testing.T) {
	bad := append(badFracs(), impl.Frac{})
	for _, a := range bad {
		for _, b := range append(someFracs(), bad...) {
			if impl.FracLess(a, b) || impl.FracLess(b, a) {
				t.Fatal(a, b)
			}
		}
	}
}

// Promise 26, LostPart: it is LostSum; with a line more less is lost, if there is a load; and with a greater load more, if there are lines.
func TestLineByLineLessIsLost(t *testing.T) {
	loads(func(load int, trunks int) {
		lost, ok := impl.LostPart(load, trunks)
		if sum, sumOk := impl.LostSum(load, trunks); !ok || !sumOk || lost != sum {
			t.Fatal(load, trunks, lost, sum)
		}
		line, _ := impl.LostPart(load, trunks+1)
		if load > 0 && trunks < mostTrunks && ratOf(line).Cmp(ratOf(lost)) >= 0 {
			t.Fatal("with a line more", load, trunks, lost, line)
		}
		more, _ := impl.LostPart(load+1, trunks)
		if trunks > 0 && load < mostLoad && ratOf(more).Cmp(ratOf(lost)) <= 0 {
			t.Fatal("with a greater load", load, trunks, lost, more)
		}
	})
}

func TestLostPartTwoWays(t *testing.T) {
	loads(func(load int, trunks int) {
		lost, ok := impl.LostPart(load, trunks)
		wantFrac(t, "line by line", lost, ok, lineByLine(load, trunks))
		wantFrac(t, "all at once", lost, ok, allAtOnce(load, trunks))
	})
}

// lostCases are what is lost of a load with 0 lines, 1, and so on, told by hand.
func lostCases() [][]impl.Frac {
	return [][]impl.Frac{
		0: {{Num: 1, Den: 1}, {Num: 0, Den: 1}, {Num: 0, Den: 1}, {Num: 0, Den: 1}, {Num: 0, Den: 1}, {Num: 0, Den: 1}, {Num: 0, Den: 1}, {Num: 0, Den: 1}, {Num: 0, Den: 1}},
		1: {{Num: 1, Den: 1}, {Num: 1, Den: 2}, {Num: 1, Den: 5}, {Num: 1, Den: 16}, {Num: 1, Den: 65}, {Num: 1, Den: 326}, {Num: 1, Den: 1957}, {Num: 1, Den: 13700}, {Num: 1, Den: 109601}},
		2: {{Num: 1, Den: 1}, {Num: 2, Den: 3}, {Num: 2, Den: 5}, {Num: 4, Den: 19}, {Num: 2, Den: 21}},
		3: {{Num: 1, Den: 1}, {Num: 3, Den: 4}, {Num: 9, Den: 17}, {Num: 9, Den: 26}},
		4: {{Num: 1, Den: 1}, {Num: 4, Den: 5}, {Num: 8, Den: 13}, {Num: 32, Den: 71}},
		5: {{Num: 1, Den: 1}, {Num: 5, Den: 6}, {Num: 25, Den: 37}},
		6: {{Num: 1, Den: 1}, {Num: 6, Den: 7}, {Num: 18, Den: 25}, {Num: 36, Den: 61}},
	}
}

func TestLostPartCases(t *testing.T) {
	for load, list := range lostCases() {
		for trunks, want := range list {
			if lost, ok := impl.LostPart(load, trunks); !ok || lost != want {
				t.Fatal(load, trunks, lost, ok)
			}
		}
	}
}

// All is lost without lines, also of no load; and nothing of no load if there are lines.
func TestNoLinesAndNoLoad(t *testing.T) {
	for load := range mostLoad + 1 {
		for _, lostBy := range []func(load int, trunks int) (impl.Frac, bool){impl.LostPart, impl.LostSum} {
			if lost, ok := lostBy(load, 0); !ok || lost != (impl.Frac{Num: 1, Den: 1}) {
				t.Fatal(load, lost, ok)
			}
		}
		if taken, ok := impl.TakenLoad(load, 0); !ok || taken != (impl.Frac{Num: 0, Den: 1}) {
			t.Fatal(load, taken, ok)
		}
	}
	for trunks := 1; trunks <= mostTrunks; trunks++ {
		for _, of := range []func(load int, trunks int) (impl.Frac, bool){impl.LostPart, impl.LostSum, impl.TakenLoad} {
			if f, ok := of(0, trunks); !ok || f != (impl.Frac{Num: 0, Den: 1}) {
				t.Fatal(trunks, f, ok)
			}
		}
	}
}

func TestPartsOfOtherLoads(t *testing.T) {
	badLoads(func(load int, trunks int) {
		for k, of := range []func(load int, trunks int) (impl.Frac, bool){impl.LostPart, impl.LostSum, impl.TakenLoad} {
			if f, ok := of(load, trunks); ok || f != (impl.Frac{}) {
				t.Fatal(k, load, trunks, f, ok)
			}
		}
		if parts := impl.BusyParts(load, trunks); len(parts) > 0 {
			t.Fatal(load, trunks, parts)
		}
	})
}

// Promise 74, LostSum: it is the last one of BusyParts, divided by their sum, in lowest terms; and never more than everything.
func TestWhatIsLostIsTheLastPart(t *testing.T) {
	loads(func(load int, trunks int) {
		lost, ok := impl.LostSum(load, trunks)
		parts, sum := impl.BusyParts(load, trunks), 0
		for _, part := range parts {
			sum += part
		}
		wantFrac(t, "the last part", lost, ok, big.NewRat(int64(parts[len(parts)-1]), int64(sum)))
		if lost.Num < 0 || lost.Num > lost.Den {
			t.Fatal("more than everything", load, trunks, lost)
		}
	})
}

func TestLostSumTwoWays(t *testing.T) {
	loads(func(load int, trunks int) {
		lost, ok := impl.LostSum(load, trunks)
		wantFrac(t, "line by line", lost, ok, lineByLine(load, trunks))
		wantFrac(t, "all at once", lost, ok, allAtOnce(load, trunks))
	})
	for load, list := range lostCases() {
		for trunks, want := range list {
			if lost, ok := impl.LostSum(load, trunks); !ok || lost != want {
				t.Fatal(load, trunks, lost, ok)
			}
		}
	}
}

// Promise 27, TakenLoad: it is the mean number of busy lines; and it is less than the number of lines, if there are any.
func TestWhatIsTakenIsBusy(t *testing.T) {
	loads(func(load int, trunks int) {
		taken, ok := impl.TakenLoad(load, trunks)
		wantFrac(t, "the mean", taken, ok, busyMean(impl.BusyParts(load, trunks)))
		if trunks > 0 && ratOf(taken).Cmp(big.NewRat(int64(trunks), 1)) >= 0 {
			t.Fatal("not less than the lines", load, trunks, taken)
		}
	})
}

func TestTakenLoadIsWhatIsNotLost(t *testing.T) {
	loads(func(load int, trunks int) {
		left := new(big.Rat).Sub(big.NewRat(1, 1), allAtOnce(load, trunks))
		taken, ok := impl.TakenLoad(load, trunks)
		wantFrac(t, "not lost", taken, ok, left.Mul(left, big.NewRat(int64(load), 1)))
	})
	for _, c := range []struct {
		load, trunks int
		taken        impl.Frac
	}{
		{2, 2, impl.Frac{Num: 6, Den: 5}},
		{1, 1, impl.Frac{Num: 1, Den: 2}},
		{1, 2, impl.Frac{Num: 4, Den: 5}},
		{3, 1, impl.Frac{Num: 3, Den: 4}},
		{4, 2, impl.Frac{Num: 20, Den: 13}},
		{6, 2, impl.Frac{Num: 42, Den: 25}},
		{1, 8, impl.Frac{Num: 109600, Den: 109601}},
	} {
		if taken, ok := impl.TakenLoad(c.load, c.trunks); !ok || taken != c.taken {
			t.Fatal(c, taken, ok)
		}
	}
}

// Promise 75, BusyParts: how often n lines are busy times the load is how often one more is, times its number.
func TestNeighboursAreInBalance(t *testing.T) {
	loads(func(load int, trunks int) {
		parts := impl.BusyParts(load, trunks)
		if len(parts) != trunks+1 {
			t.Fatal(load, trunks, parts)
		}
		for n := range trunks {
			if parts[n]*load != parts[n+1]*(n+1) {
				t.Fatal(load, trunks, n, parts)
			}
		}
	})
}

// The balance alone does not tell how great the parts are.
func TestBusyPartsProducts(t *testing.T) {
	loads(func(load int, trunks int) {
		for n, part := range impl.BusyParts(load, trunks) {
			want := 1
			for range n {
				want *= load
			}
			for k := n + 1; k <= trunks; k++ {
				want *= k
			}
			if part != want {
				t.Fatal(load, trunks, n, part, want)
			}
		}
	})
}

func TestBusyPartsCases(t *testing.T) {
	for _, c := range []struct {
		load, trunks int
		parts        []int
	}{
		{0, 0, []int{1}},
		{6, 0, []int{1}},
		{0, 1, []int{1, 0}},
		{0, 4, []int{24, 0, 0, 0, 0}},
		{1, 3, []int{6, 6, 3, 1}},
		{2, 2, []int{2, 4, 4}},
		{3, 4, []int{24, 72, 108, 108, 81}},
		{6, 1, []int{1, 6}},
		{6, 8, []int{40320, 241920, 725760, 1451520, 2177280, 2612736, 2612736, 2239488, 1679616}},
	} {
		if parts := impl.BusyParts(c.load, c.trunks); !slices.Equal(parts, c.parts) {
			t.Fatal(c, parts)
		}
	}
}

func TestBusyPartsAreNewMemory(t *testing.T) {
	loads(func(load int, trunks int) {
		first, second := impl.BusyParts(load, trunks), impl.BusyParts(load, trunks)
		want := slices.Clone(second)
		overwrite(first)
		if !slices.Equal(second, want) {
			t.Fatal("shared with another result", load, trunks)
		}
		overwrite(second)
		if !slices.Equal(impl.BusyParts(load, trunks), want) {
			t.Fatal("kept", load, trunks)
		}
	})
}

// Promise 76, TrunksFor: with so many lines at most the part is lost, and with one fewer, as far as there is one, more.
func TestNoFewerLinesAreEnough(t *testing.T) {
	parts := someFracs()
	nearParts(func(part impl.Frac) { parts = append(parts, part) })
	for _, part := range parts {
		for load := range mostLoad + 1 {
			trunks := impl.TrunksFor(load, part)
			if trunks != wantTrunks(load, ratOf(part)) {
				t.Fatal(load, part, trunks)
			}
			enough := trunks
			if trunks == -1 {
				enough = mostTrunks + 1
			} else if lost, ok := impl.LostPart(load, trunks); !ok || impl.FracLess(part, lost) {
				t.Fatal("more is lost", load, part, trunks, lost)
			}
			if enough == 0 {
				continue
			}
			if lost, ok := impl.LostPart(load, enough-1); !ok || !impl.FracLess(part, lost) {
				t.Fatal("fewer are enough", load, part, trunks, lost)
			}
		}
	}
}

func TestTrunksForCases(t *testing.T) {
	for _, c := range []struct {
		load   int
		part   impl.Frac
		trunks int
	}{
		{2, impl.Frac{Num: 1, Den: 4}, 3},
		{2, impl.Frac{Num: 4, Den: 19}, 3},
		{2, impl.Frac{Num: 8, Den: 38}, 3},
		{2, impl.Frac{Num: 4, Den: 20}, 4},
		{2, impl.Frac{Num: 2, Den: 5}, 2},
		{2, impl.Frac{Num: 3, Den: 4}, 1},
		{1, impl.Frac{Num: 1, Den: 109601}, 8},
		{1, impl.Frac{Num: 1, Den: 109602}, -1},
		{6, impl.Frac{Num: 6, Den: 7}, 1},
		{6, impl.Frac{Num: 1, Den: 100}, -1},
		{6, impl.Frac{Num: 1, Den: greatest}, -1},
	} {
		if trunks := impl.TrunksFor(c.load, c.part); trunks != c.trunks {
			t.Fatal(c, trunks)
		}
	}
}

// Nothing is lost only of no load, with a line at least; and everything, or more, may always be lost.
func TestTrunksForNothingAndEverything(t *testing.T) {
	for load := range mostLoad + 1 {
		for _, den := range []int{1, 2, greatest} {
			want := -1
			if load == 0 {
				want = 1
			}
			if trunks := impl.TrunksFor(load, impl.Frac{Num: 0, Den: den}); trunks != want {
				t.Fatal("nothing", load, den, trunks)
			}
			if trunks := impl.TrunksFor(load, impl.Frac{Num: den, Den: den}); trunks != 0 {
				t.Fatal("everything", load, den, trunks)
			}
			if trunks := impl.TrunksFor(load, impl.Frac{Num: greatest, Den: den}); trunks != 0 {
				t.Fatal("more", load, den, trunks)
			}
		}
		if trunks := impl.TrunksFor(load, impl.Frac{Num: greatest - 1, Den: greatest}); trunks != 1 {
			t.Fatal("nearly everything", load, trunks)
		}
	}
}

func TestTrunksForOthers(t *testing.T) {
	for _, load := range badBounds(mostLoad) {
		for _, part := range append(someFracs(), badFracs()...) {
			if trunks := impl.TrunksFor(load, part); trunks != -1 {
				t.Fatal(load, part, trunks)
			}
		}
	}
	for load := range mostLoad + 1 {
		for _, part := range append(badFracs(), impl.Frac{}) {
			if trunks := impl.TrunksFor(load, part); trunks != -1 {
				t.Fatal(load, part, trunks)
			}
		}
	}
}
