package tests

import (
	"math"
	"slices"
	"testing"

	"loop.example/circuitswitching/impl"
)

// Promise 17, FrameLeft: no frame that sends everything is shorter than the fullest line; of frames that send everything, long or short, and of all short frames of few ports.
func TestNoFrameThatSendsEverythingIsShorter(t *testing.T) {
	row := &numbers{state: 59}
	someTables(func(table [][]int) {
		for _, frame := range append(wholeFrames(row, table), impl.FrameBest(table), impl.FrameGreedy(table)) {
			left := impl.FrameLeft(table, frame)
			if !isNothing(left) || len(left) != len(table) || len(frame) < impl.LineMost(table) {
				t.Fatal(table, frame, left)
			}
		}
	})
	short := func(table [][]int) {
		for many := range mostOf(table) {
			eachFrame(allSlots(len(table)), many, func(frame [][]int) {
				if isNothing(impl.FrameLeft(table, frame)) {
					t.Fatal(table, frame)
				}
			})
		}
	}
	countingTables(1, 6, short)
	countingTables(2, 2, short)
	for _, table := range [][][]int{square(3, 1), chain(3), {{1, 0, 1}, {0, 0, 0}, {1, 0, 0}}, {{0, 0, 1}, {0, 0, 1}, {1, 0, 1}}, {{2, 1, 0}, {0, 0, 1}, {1, 0, 0}}} {
		short(table)
	}
}

// Promise 17, FrameLeft: what a frame sends and leaves is together the traffic.
func TestWhatAFrameSendsAndLeavesIsTheTraffic(t *testing.T) {
	fine := 0
	frames(func(table [][]int, frame [][]int) {
		left := impl.FrameLeft(table, frame)
		if !sameTable(left, wantLeft(table, frame)) {
			t.Fatal(table, frame, left)
		}
		if !impl.FrameOk(table, frame) {
			return
		}
		fine++
		if unitsOf(left)+impl.FrameSends(frame) != impl.TrafficAll(table) {
			t.Fatal(table, frame, left, impl.FrameSends(frame))
		}
		cells(len(table), func(in int, out int) {
			if left[in][out] < 0 || left[in][out]+sentFrom(frame, in, out) != table[in][out] {
				t.Fatal(table, frame, left)
			}
		})
	})
	if fine < 10000 {
		t.Fatal("too few frames that are ok", fine)
	}
}

// FrameLeft takes any frame: slots of other lengths, numbers that are no outputs, outputs twice, and more slots than MaxSlots.
func TestFramesThatAreNotOkLeaveSomethingToo(t *testing.T) {
	table := [][]int{{2, 1}, {0, 3}}
	cases := []struct {
		frame [][]int
		left  [][]int
	}{
		{nil, table},
		{[][]int{nil, {}, {}}, table},
		{[][]int{{-1, -1}, {-2, 2}, {math.MinInt, math.MaxInt}, {3, -7}}, table},
		{[][]int{{0}}, [][]int{{1, 1}, {0, 3}}},
		{[][]int{{1, 1, 1, 1}, {-1, 1, 0}}, [][]int{{2, 0}, {0, 1}}},
		{[][]int{{0, 0}, {0, 0}, {0, 0}}, [][]int{{-1, 1}, {-3, 3}}},
		{[][]int{{2, 1}, {0, -5}}, [][]int{{1, 1}, {0, 2}}},
		{slices.Repeat([][]int{{1, 0}}, 1000), [][]int{{2, -999}, {-1000, 3}}},
	}
	for _, c := range cases {
		if left := impl.FrameLeft(table, c.frame); !sameTable(left, c.left) {
			t.Fatal(c.frame, left)
		}
	}
	// In a frame that is not ok one slot may leave nothing of a column of two.
	if left := impl.FrameLeft([][]int{{1, 0}, {1, 0}}, [][]int{{0, 0}}); !sameTable(left, square(2, 0)) {
		t.Fatal(left)
	}
}

// FrameOk tells frames from what is none.
func TestFrameOk(t *testing.T) {
	answers := [2]int{}
	frames(func(table [][]int, frame [][]int) {
		want := wantFrameOk(table, frame)
		if impl.FrameOk(table, frame) != want {
			t.Fatal(table, frame, want)
		}
		if want {
			answers[1]++
		} else {
			answers[0]++
		}
	})
	if answers[0] < 5000 || answers[1] < 5000 {
		t.Fatal("too few frames of one kind", answers)
	}
	countingTables(2, 2, func(table [][]int) {
		for many := range 3 {
			eachFrame(append(allSlots(2), []int{0, 0}, []int{1, 1}, []int{-2, 0}, []int{1, 2}, []int{0}, nil), many, func(frame [][]int) {
				if impl.FrameOk(table, frame) != wantFrameOk(table, frame) {
					t.Fatal(table, frame)
				}
			})
		}
	})
}

// One thing that is wrong in a frame is enough, at whatever place it is.
func TestFramesThatAreNotOk(t *testing.T) {
	for ports := 1; ports <= most; ports++ {
		table := square(ports, 1)
		good := impl.FrameBest(table)
		if !impl.FrameOk(table, good) {
			t.Fatal(table, good)
		}
		for k := range good {
			slots := [][]int{nil, good[k][1:], append(slices.Clone(good[k]), -1), append(slices.Clone(good[k]), 0)}
			for in := range ports {
				for _, out := range []int{math.MinInt, -2, ports, ports + 1, most + 1, math.MaxInt, good[k][(in+1)%ports]} {
					if out != good[k][in] {
						slot := slices.Clone(good[k])
						slot[in] = out
						slots = append(slots, slot)
					}
				}
			}
			for _, slot := range slots {
				bad := cloneTable(good)
				bad[k] = slot
				if impl.FrameOk(table, bad) {
					t.Fatal(table, bad)
				}
			}
		}
		cells(ports, func(in int, out int) {
			less := cloneTable(table)
			less[in][out] = 0
			if impl.FrameOk(less, good) {
				t.Fatal(less, good)
			}
		})
	}
}

// Frames have from none to MaxSlots slots, which may send nothing.
func TestFramesHaveAtMostMaxSlotsSlots(t *testing.T) {
	if impl.MaxSlots != mostSlots {
		t.Fatal(impl.MaxSlots)
	}
	for ports := range most + 1 {
		for _, table := range [][][]int{square(ports, 0), square(ports, 6)} {
			idle := slices.Repeat([]int{-1}, ports)
			for slots := range 50 {
				if impl.FrameOk(table, slices.Repeat([][]int{idle}, slots)) != (slots <= 36) {
					t.Fatal(table, slots)
				}
			}
			if impl.FrameOk(table, slices.Repeat([][]int{idle}, 10000)) || !impl.FrameOk(table, nil) {
				t.Fatal(table)
			}
			if impl.FrameOk(table, slices.Repeat([][]int{append(idle, -1)}, 3)) || ports > 0 && impl.FrameOk(table, [][]int{idle, {}}) {
				t.Fatal(table)
			}
		}
	}
}

// An input sends to an output as often as it has units for it, and no more often.
func TestFramesSendNoMoreThanThereIs(t *testing.T) {
	for units := range 7 {
		table := [][]int{{units, 6}, {6, units}}
		for slots := range 8 {
			if impl.FrameOk(table, slices.Repeat([][]int{{0, 1}}, slots)) != (slots <= units) || impl.FrameOk(table, slices.Repeat([][]int{{-1, 1}}, slots)) != (slots <= units) {
				t.Fatal(table, slots)
			}
			if impl.FrameOk(table, slices.Repeat([][]int{{1, 0}}, slots)) != (slots <= 6) {
				t.Fatal(table, slots)
			}
		}
	}
}

// Promise 18, FillUp: every line can be filled up.
func TestEveryLineCanBeFilledUp(t *testing.T) {
	tables(func(table [][]int) {
		more := impl.FillUp(table)
		if !sameTable(more, wantFill(table)) {
			t.Fatal(table, more, wantFill(table))
		}
		for _, row := range more {
			if slices.Min(row) < 0 {
				t.Fatal(table, more)
			}
		}
		for _, sum := range sumsOf(together(table, more)) {
			if sum != impl.LineMost(table) {
				t.Fatal(table, more)
			}
		}
		if isNothing(more) != impl.Even(table) || isNothing(more) != isEven(table) {
			t.Fatal(table, more)
		}
	})
}

// Filled up by hand, also with more than MaxUnits.
func TestFillUpInOrder(t *testing.T) {
	cases := []struct {
		table [][]int
		more  [][]int
	}{
		{nil, nil},
		{[][]int{{5}}, [][]int{{0}}},
		{[][]int{{0, 0}, {0, 0}}, [][]int{{0, 0}, {0, 0}}},
		{[][]int{{1, 0}, {0, 0}}, [][]int{{0, 0}, {0, 1}}},
		{[][]int{{0, 1}, {0, 0}}, [][]int{{0, 0}, {1, 0}}},
		{[][]int{{3, 0}, {0, 1}}, [][]int{{0, 0}, {0, 2}}},
		{[][]int{{2, 1, 0}, {0, 0, 1}, {1, 0, 0}}, [][]int{{0, 0, 0}, {0, 2, 0}, {0, 0, 2}}},
		{[][]int{{0, 0, 0}, {0, 0, 0}, {1, 0, 2}}, [][]int{{2, 1, 0}, {0, 2, 1}, {0, 0, 0}}},
		{[][]int{{6, 6, 6}, {0, 0, 0}, {0, 0, 0}}, [][]int{{0, 0, 0}, {12, 6, 0}, {0, 6, 12}}},
		{[][]int{{0, 0, 6}, {0, 0, 6}, {0, 0, 6}}, [][]int{{12, 0, 0}, {6, 6, 0}, {0, 12, 0}}},
	}
	for _, c := range cases {
		if more := impl.FillUp(c.table); !sameTable(more, c.more) {
			t.Fatal(c.table, more)
		}
	}
	// A column alone is full: each input has 30 units to fill up.
	table := square(most, 0)
	for in := range table {
		table[in][most-1] = 6
	}
	more := impl.FillUp(table)
	if len(more) != most || !slices.Equal(more[0], []int{30, 0, 0, 0, 0, 0}) || !slices.Equal(more[1], []int{6, 24, 0, 0, 0, 0}) || !slices.Equal(more[5], []int{0, 0, 0, 0, 30, 0}) {
		t.Fatal(more)
	}
}

// Promise 19, FrameBest: the shortest frame is as long as the fullest line.
func TestTheShortestFrameIsAsLongAsTheFullestLine(t *testing.T) {
	all := allPerms()
	tables(func(table [][]int) {
		frame := impl.FrameBest(table)
		if !impl.FrameOk(table, frame) || !wantFrameOk(table, frame) || len(frame) != mostOf(table) || len(frame) != impl.LineMost(table) {
			t.Fatal(table, frame)
		}
		if !isNothing(impl.FrameLeft(table, frame)) || !isNothing(wantLeft(table, frame)) {
			t.Fatal(table, frame)
		}
		if want := wantBest(all[len(table)], table); !sameTable(frame, want) {
			t.Fatal(table, frame, want)
		}
	})
}

// handFrame is traffic and the frame that was found for it by hand.
type handFrame struct {
	table [][]int
	frame [][]int
}

func byHand(t *testing.T, frameOf func(table [][]int) [][]int, cases []handFrame) {
	t.Helper()
	for _, c := range cases {
		if frame := frameOf(c.table); !sameTable(frame, c.frame) {
			t.Fatal(c.table, frame)
		}
	}
}

// The slots of the shortest frame, by hand: the least permutation of traffic and filling together, and the traffic is used up first.
func TestSlotsOfTheShortestFrame(t *testing.T) {
	cases := []handFrame{
		{nil, nil},
		{[][]int{{0}}, nil},
		{[][]int{{2}}, [][]int{{0}, {0}}},
		{[][]int{{0, 0}, {0, 2}}, [][]int{{-1, 1}, {-1, 1}}},
		{[][]int{{1, 1}, {0, 0}}, [][]int{{0, -1}, {1, -1}}},
		{[][]int{{1, 0}, {1, 0}}, [][]int{{0, -1}, {-1, 0}}},
		{[][]int{{3, 0}, {0, 1}}, [][]int{{0, 1}, {0, -1}, {0, -1}}},
		{[][]int{{0, 1, 1}, {0, 0, 0}, {1, 0, 0}}, [][]int{{1, -1, -1}, {2, -1, 0}}},
		{[][]int{{2, 1, 0}, {0, 0, 1}, {1, 0, 0}}, [][]int{{0, -1, -1}, {0, -1, -1}, {1, 2, 0}}},
		{square(2, 1), [][]int{{0, 1}, {1, 0}}},
	}
	byHand(t, impl.FrameBest, cases)
	if frame := impl.FrameBest(square(most, 6)); len(frame) != mostSlots || !slices.Equal(frame[0], ascending(most)) || !slices.Equal(frame[35], []int{5, 4, 1, 0, 3, 2}) {
		t.Fatal(frame)
	}
}

// The shortest frame of even traffic is made of the permutations of Split.
func TestEvenTrafficIsSentByItsPermutations(t *testing.T) {
	evenTables(func(table [][]int) {
		list, ok := impl.Split(table)
		if frame := impl.FrameBest(table); !ok || !sameTable(frame, list) {
			t.Fatal(table, frame, list)
		}
	})
}

// Promise 20, FrameGreedy: greed needs at most twice as many slots.
func TestGreedNeedsAtMostTwiceAsManySlots(t *testing.T) {
	longer := 0
	tables(func(table [][]int) {
		frame := impl.FrameGreedy(table)
		if want := wantGreedy(table); !sameTable(frame, want) {
			t.Fatal(table, frame, want)
		}
		units := impl.LineMost(table)
		if !isNothing(impl.FrameLeft(table, frame)) || len(frame) < units || units > 0 && len(frame) >= 2*units {
			t.Fatal(table, frame)
		}
		if impl.FrameOk(table, frame) != (len(frame) <= mostSlots) {
			t.Fatal(table, frame)
		}
		if len(frame) > units {
			longer++
		}
	})
	if longer < 1000 {
		t.Fatal("too seldom longer than the shortest frame", longer)
	}
}

// Greed by hand: the first inputs, and the first outputs, come first.
func TestSlotsOfGreed(t *testing.T) {
	cases := []handFrame{
		{nil, nil},
		{[][]int{{0}}, nil},
		{[][]int{{2}}, [][]int{{0}, {0}}},
		{[][]int{{0, 0}, {0, 2}}, [][]int{{-1, 1}, {-1, 1}}},
		{[][]int{{1, 1}, {1, 0}}, [][]int{{0, -1}, {1, 0}}},
		{[][]int{{1, 1}, {1, 1}}, [][]int{{0, 1}, {1, 0}}},
		{[][]int{{1, 0}, {1, 1}}, [][]int{{0, 1}, {-1, 0}}},
		{[][]int{{2, 1, 0}, {0, 0, 1}, {1, 0, 0}}, [][]int{{0, 2, -1}, {0, -1, -1}, {1, -1, 0}}},
		{[][]int{{1, 1, 0}, {1, 0, 1}, {0, 1, 1}}, [][]int{{0, 2, 1}, {1, 0, 2}}},
		{square(3, 1), [][]int{{0, 1, 2}, {1, 0, -1}, {2, -1, 0}, {-1, 2, 1}}},
	}
	byHand(t, impl.FrameGreedy, cases)
}

// A frame of greed may have more slots than MaxSlots: it sends everything all the same, but is not ok.
func TestGreedMayNeedMoreThanMaxSlots(t *testing.T) {
	table := square(most, 6)
	frame := impl.FrameGreedy(table)
	if len(frame) != 48 || !isNothing(impl.FrameLeft(table, frame)) || impl.FrameOk(table, frame) || impl.FrameSends(frame) != 216 {
		t.Fatal(len(frame), frame)
	}
	if !impl.FrameOk(table, frame[:36]) || impl.FrameOk(table, frame[:37]) || !impl.FrameOk(table, frame[12:]) {
		t.Fatal(frame)
	}
}

// Promise 60, FrameLeft: slot by slot less is left; without slots everything is left.
func TestSlotBySlotLessIsLeft(t *testing.T) {
	frames(func(table [][]int, frame [][]int) {
		if !sameTable(impl.FrameLeft(table, nil), table) || !sameTable(impl.FrameLeft(table, [][]int{}), table) {
			t.Fatal(table)
		}
		if len(frame) == 0 {
			return
		}
		less, more := impl.FrameLeft(table, frame), impl.FrameLeft(table, frame[:len(frame)-1])
		last := frame[len(frame)-1:]
		cells(len(table), func(in int, out int) {
			if more[in][out] < less[in][out] || more[in][out] != less[in][out]+sentFrom(last, in, out) {
				t.Fatal(table, frame, less, more)
			}
		})
	})
}

// Promise 61, FrameSends: sent is what is not idle.
func TestSentIsWhatIsNotIdle(t *testing.T) {
	frames(func(table [][]int, frame [][]int) {
		sends := 0
		for _, slot := range frame {
			idle := slices.DeleteFunc(slices.Clone(slot), func(out int) bool { return out >= 0 })
			sends += len(slot) - len(idle)
		}
		if impl.FrameSends(frame) != sends {
			t.Fatal(frame, impl.FrameSends(frame), sends)
		}
		if len(frame) > 0 && impl.FrameSends(frame) != impl.FrameSends(frame[1:])+impl.FrameSends(frame[:1]) {
			t.Fatal(frame)
		}
	})
	cases := []struct {
		frame [][]int
		sends int
	}{
		{nil, 0},
		{[][]int{nil, {}}, 0},
		{[][]int{{-1, -1}, {-2, math.MinInt}, {-1}}, 0},
		{[][]int{{0, 0, 0}}, 3},
		{[][]int{{-1, 5, 6, 7, 100, math.MaxInt, -3}, {0}, {}, {-1, 0}}, 7},
		{slices.Repeat([][]int{ascending(9)}, 1000), 9000},
	}
	for _, c := range cases {
		if sends := impl.FrameSends(c.frame); sends != c.sends {
			t.Fatal(c.frame, sends)
		}
	}
}

// Promise 62, TrafficAll: all rows are all.
func TestAllRowsAreAll(t *testing.T) {
	tables(func(table [][]int) {
		all, atMost := impl.TrafficAll(table), impl.LineMost(table)*len(table)
		if all != unitsOf(table) || all > atMost || (all == atMost) != impl.Even(table) {
			t.Fatal(table, all, atMost)
		}
	})
	for ports := range most + 1 {
		cells(ports, func(in int, out int) {
			table := square(ports, 0)
			table[in][out] = 5
			if impl.TrafficAll(table) != 5 {
				t.Fatal(table)
			}
		})
		if impl.TrafficAll(square(ports, 6)) != 6*ports*ports {
			t.Fatal(ports)
		}
	}
}

// Traffic of nothing needs no slots, also if there are no ports.
func TestFramesOfNothing(t *testing.T) {
	for ports := range most + 1 {
		nothing := square(ports, 0)
		if len(impl.FrameBest(nothing)) != 0 || len(impl.FrameGreedy(nothing)) != 0 || impl.TrafficAll(nothing) != 0 {
			t.Fatal(ports)
		}
		if !sameTable(impl.FillUp(nothing), nothing) || !sameTable(impl.FrameLeft(nothing, nil), nothing) || !impl.FrameOk(nothing, nil) {
			t.Fatal(ports)
		}
		for in := range ports {
			slot := slices.Repeat([]int{-1}, ports)
			slot[in] = ports - 1 - in
			if impl.FrameOk(nothing, [][]int{slot}) {
				t.Fatal(slot)
			}
		}
	}
	if !impl.FrameOk(nil, nil) || !impl.FrameOk(nil, [][]int{{}, nil}) || impl.FrameOk(nil, [][]int{{-1}}) || impl.FrameOk(nil, [][]int{{0}}) {
		t.Fatal("frames without ports")
	}
	if len(impl.FrameLeft(nil, [][]int{{0, 1}, {-1}})) != 0 || len(impl.FillUp(nil)) != 0 || impl.TrafficAll(nil) != 0 {
		t.Fatal("traffic without ports")
	}
}

// Every function of frames has one fixed result for tables that are no valid traffic.
func TestFramesOfTablesThatAreNoTraffic(t *testing.T) {
	badTables(func(table [][]int) {
		idle := slices.Repeat([]int{-1}, len(table))
		for _, frame := range [][][]int{nil, {}, {{}}, {nil, nil}, {idle}, {idle, idle}, {ascending(len(table))}, table} {
			if impl.FrameOk(table, frame) {
				t.Fatal(table, frame)
			}
			if left := impl.FrameLeft(table, frame); len(left) != 0 {
				t.Fatal(table, frame, left)
			}
		}
		if impl.TrafficAll(table) != -1 {
			t.Fatal(table, impl.TrafficAll(table))
		}
		if more := impl.FillUp(table); len(more) != 0 {
			t.Fatal(table, more)
		}
		if frame := impl.FrameBest(table); len(frame) != 0 {
			t.Fatal(table, frame)
		}
		if frame := impl.FrameGreedy(table); len(frame) != 0 {
			t.Fatal(table, frame)
		}
	})
}

// frameTables returns what the functions return that return tables or frames.
func frameTables(table [][]int, frame [][]int) [][][]int {
	return [][][]int{impl.FrameLeft(table, frame), impl.FillUp(table), impl.FrameBest(table), impl.FrameGreedy(table)}
}

// framesApart fails the test if results share memory with the arguments, with each other, or their rows with each other, or if an argument was written to.
func framesApart(t *testing.T, table [][]int, frame [][]int) {
	t.Helper()
	table, frame = rowsWithRoom(table), rowsWithRoom(frame)
	tableBefore, frameBefore := look(table), look(frame)
	impl.FrameOk(table, frame)
	impl.FrameSends(frame)
	impl.TrafficAll(table)
	results := append(frameTables(table, frame), frameTables(table, frame)...)
	tableBefore.unchanged(t, "traffic", table)
	frameBefore.unchanged(t, "frame", frame)
	wanted := [][][]int{}
	for _, rows := range results {
		wanted = append(wanted, cloneTable(rows))
	}
	for k, rows := range results {
		if !sameTable(rows, wanted[k]) {
			t.Fatal("results share memory", table, frame)
		}
		apart(t, "result", rows)
	}
	for k, rows := range frameTables(table, frame) {
		if !sameTable(rows, wanted[k]) {
			t.Fatal("a result was kept", table, frame)
		}
	}
	tableBefore.unchanged(t, "traffic", table)
	frameBefore.unchanged(t, "frame", frame)
}

func TestFramesAreNotWrittenToAndNotShared(t *testing.T) {
	count := 0
	frames(func(table [][]int, frame [][]int) {
		if count%5 == 0 {
			framesApart(t, table, frame)
		}
		count++
	})
	badTables(func(table [][]int) {
		framesApart(t, table, nil)
		framesApart(t, table, [][]int{{0, 1}, {-1}})
		framesApart(t, table, table)
	})
}

// A slot that grows does not run into the next one.
func TestSlotsCanGrow(t *testing.T) {
	evenTables(func(table [][]int) {
		for _, rows := range frameTables(table, nil) {
			before := cloneTable(rows)
			for k := range rows {
				_ = append(rows[k], 77, 78, 79)
			}
			if !sameTable(rows, before) {
				t.Fatal(table, before, rows)
			}
		}
	})
}

// The same memory may be given as traffic and as a frame.
func TestTrafficMayBeAFrame(t *testing.T) {
	tables(func(table [][]int) {
		before := cloneTable(table)
		left, ok := impl.FrameLeft(table, table), impl.FrameOk(table, table)
		if !sameTable(left, wantLeft(before, before)) || ok != wantFrameOk(before, before) || !sameTable(table, before) {
			t.Fatal(before, left, ok)
		}
	})
}
