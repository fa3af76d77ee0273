package tests

import (
	"math"
	"slices"
)

// mostSlots is impl.MaxSlots written out, so that a changed constant is noticed.
const mostSlots = 36

// cells visits all pairs of an input and an output.
func cells(ports int, visit func(in int, out int)) {
	for cell := range ports * ports {
		visit(cell/ports, cell%ports)
	}
}

func together(a [][]int, b [][]int) [][]int {
	both := cloneTable(a)
	cells(len(a), func(in int, out int) { both[in][out] += b[in][out] })
	return both
}

// unitsOf returns the sum of all numbers of a table.
func unitsOf(table [][]int) int {
	sum := 0
	for _, row := range table {
		for _, units := range row {
			sum += units
		}
	}
	return sum
}

func isNothing(table [][]int) bool {
	return sameTable(table, square(len(table), 0))
}

// sentFrom tells how often a frame sends from an input to an output.
func sentFrom(frame [][]int, in int, out int) int {
	often := 0
	for _, slot := range frame {
		if in < len(slot) && slot[in] == out {
			often++
		}
	}
	return often
}

func wantLeft(table [][]int, frame [][]int) [][]int {
	left := cloneTable(table)
	cells(len(table), func(in int, out int) { left[in][out] -= sentFrom(frame, in, out) })
	return left
}

// wantFrameOk tells whether a frame is one for valid traffic.
func wantFrameOk(table [][]int, frame [][]int) bool {
	for _, slot := range frame {
		if len(slot) != len(table) || slices.ContainsFunc(slot, func(out int) bool { return out < -1 || out >= len(table) }) {
			return false
		}
		outs := slices.DeleteFunc(slices.Clone(slot), func(out int) bool { return out == -1 })
		slices.Sort(outs)
		if len(slices.Compact(slices.Clone(outs))) != len(outs) {
			return false
		}
	}
	for _, row := range wantLeft(table, frame) {
		if slices.ContainsFunc(row, func(units int) bool { return units < 0 }) {
			return false
		}
	}
	return len(frame) <= mostSlots
}

// wantFill fills up unit by unit, and adds up the lines again for each.
func wantFill(table [][]int) [][]int {
	full := mostOf(table)
	more := square(len(table), 0)
	cells(len(table), func(in int, out int) {
		for {
			sums := sumsOf(together(table, more))
			if sums[in] >= full || sums[len(table)+out] >= full {
				return
			}
			more[in][out]++
		}
	})
	return more
}

// wantBest takes the first one of all permutations for each slot.
func wantBest(all [][]int, table [][]int) [][]int {
	left, filler := cloneTable(table), wantFill(table)
	frame := [][]int{}
	for range mostOf(table) {
		slot := []int{}
		for in, out := range firstOf(all, together(left, filler)) {
			if left[in][out] > 0 {
				left[in][out]--
				slot = append(slot, out)
			} else {
				filler[in][out]--
				slot = append(slot, -1)
			}
		}
		frame = append(frame, slot)
	}
	return frame
}

// wantGreedy goes through all pairs of lines for each slot, and sends a unit where neither line has one yet.
func wantGreedy(table [][]int) [][]int {
	left := cloneTable(table)
	frame := [][]int{}
	for !isNothing(left) {
		slot := slices.Repeat([]int{-1}, len(table))
		cells(len(table), func(in int, out int) {
			if left[in][out] > 0 && slot[in] == -1 && !slices.Contains(slot, out) {
				left[in][out]--
				slot[in] = out
			}
		})
		frame = append(frame, slot)
	}
	return frame
}

// unitByUnit returns the frame that sends everything, one unit in each slot.
func unitByUnit(table [][]int) [][]int {
	frame := [][]int{}
	cells(len(table), func(in int, out int) {
		for range table[in][out] {
			slot := slices.Repeat([]int{-1}, len(table))
			slot[in] = out
			frame = append(frame, slot)
		}
	})
	return frame
}

// wholeFrames returns frames that send all of valid traffic, long ones, too.
func wholeFrames(row *numbers, table [][]int) [][][]int {
	units, greedy := unitByUnit(table), wantGreedy(table)
	mixed := [][]int{}
	for _, k := range row.perm(len(greedy)) {
		mixed = append(mixed, greedy[k])
	}
	return [][][]int{units, greedy, mixed, append(square(len(table), -1), greedy...)}
}

// allSlots returns all slots of so many ports in which no output is twice.
func allSlots(ports int) [][]int {
	slots := [][]int{{}}
	for range ports {
		longer := [][]int{}
		for _, slot := range slots {
			for out := -1; out < ports; out++ {
				if out == -1 || !slices.Contains(slot, out) {
					longer = append(longer, append(slices.Clone(slot), out))
				}
			}
		}
		slots = longer
	}
	return slots
}

// eachFrame visits all frames of so many of some slots.
func eachFrame(slots [][]int, many int, visit func(frame [][]int)) {
	if many == 0 {
		visit(nil)
		return
	}
	eachFrame(slots, many-1, func(frame [][]int) {
		for _, slot := range slots {
			visit(append(slices.Clone(frame), slot))
		}
	})
}

// anyFrame returns a frame of slots of any length and of numbers that may be no outputs.
func anyFrame(row *numbers, ports int) [][]int {
	frame := make([][]int, row.below(7))
	for k := range frame {
		frame[k] = make([]int, max(0, ports+row.below(4)-2))
		for in := range frame[k] {
			frame[k][in] = row.below(ports+4) - 2
		}
		if row.below(20) == 0 && len(frame[k]) > 0 {
			frame[k][row.below(len(frame[k]))] = []int{math.MinInt, math.MaxInt, -100, 100}[row.below(4)]
		}
	}
	return frame
}

// someTables visits valid traffic of all numbers of ports, fewer tables than tables does.
func someTables(visit func(table [][]int)) {
	count := 0
	tables(func(table [][]int) {
		if count%11 == 0 || len(table) > 4 {
			visit(table)
		}
		count++
	})
}

// frames visits valid traffic with frames of all kinds, those that are none of it, too.
func frames(visit func(table [][]int, frame [][]int)) {
	row := &numbers{state: 53}
	someTables(func(table [][]int) {
		visit(table, nil)
		for _, frame := range wholeFrames(row, table) {
			visit(table, frame)
			visit(table, frame[:row.below(len(frame)+1)])
		}
		visit(table, anyFrame(row, len(table)))
		visit(table, append(anyFrame(row, len(table)), wantGreedy(table)...))
	})
}
