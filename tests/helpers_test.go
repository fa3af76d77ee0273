package tests

import (
	"math"
	"slices"
	"testing"

	"loop.example/circuitswitching/impl"
)

// most is impl.MaxPorts written out, so that a changed constant is noticed.
const most = 6

// permsOf returns all permutations of a length in the order of their ranks.
func permsOf(length int) [][]int {
	all := [][]int{}
	p := make([]int, 0, length)
	var grow func()
	grow = func() {
		if len(p) == length {
			all = append(all, slices.Clone(p))
			return
		}
		for n := range length {
			if !slices.Contains(p, n) {
				p = append(p, n)
				grow()
				p = p[:len(p)-1]
			}
		}
	}
	grow()
	return all
}

// eachPerm visits all valid permutations, also that of no ports.
func eachPerm(visit func(p []int)) {
	for length := range most + 1 {
		for _, p := range permsOf(length) {
			visit(p)
		}
	}
}

func ascending(length int) []int {
	p := make([]int, length)
	for k := range p {
		p[k] = k
	}
	return p
}

func descending(length int) []int {
	p := ascending(length)
	slices.Reverse(p)
	return p
}

// exchanged returns a list with the numbers of two places exchanged.
func exchanged(p []int, a int, b int) []int {
	q := slices.Clone(p)
	q[a], q[b] = q[b], q[a]
	return q
}

// badPerms returns lists that are no permutations: too long, or with one number that is there twice, negative or too great.
func badPerms() [][]int {
	bad := [][]int{{1}, {-1}, {0, 2}, {1, 2}, {-1, 0}, {0, 0, 0}, {1, 1, 1}, {1, 2, 3}}
	bad = append(bad, permsOf(most+1)...)
	bad = append(bad, ascending(most+2), descending(most+9), make([]int, 1000))
	for length := 1; length <= most; length++ {
		for _, p := range [][]int{ascending(length), descending(length)} {
			for place := range p {
				for _, n := range []int{-1, length, length + 1, most + 1, math.MinInt, math.MaxInt, p[(place+1)%length]} {
					if n != p[place] {
						q := slices.Clone(p)
						q[place] = n
						bad = append(bad, q)
					}
				}
			}
		}
	}
	return bad
}

// numbers is a row of numbers that look as if there was no order in them, the same ones in every run.
type numbers struct {
	state uint64
}

func (r *numbers) below(n int) int {
	r.state = r.state*6364136223846793005 + 1442695040888963407
	return int(r.state>>33) % n
}

func (r *numbers) perm(length int) []int {
	p := ascending(length)
	for k := length - 1; k > 0; k-- {
		m := r.below(k + 1)
		p[k], p[m] = p[m], p[k]
	}
	return p
}

func square(ports int, units int) [][]int {
	table := make([][]int, ports)
	for in := range table {
		table[in] = make([]int, ports)
		for out := range table[in] {
			table[in][out] = units
		}
	}
	return table
}

func cloneTable(table [][]int) [][]int {
	all := [][]int{}
	for _, row := range table {
		all = append(all, slices.Clone(row))
	}
	return all
}

func sameTable(a [][]int, b [][]int) bool {
	return slices.EqualFunc(a, b, slices.Equal[[]int])
}

// sumsOf returns the sums of the rows and then of the columns.
func sumsOf(table [][]int) []int {
	sums := []int{}
	for _, row := range table {
		sum := 0
		for _, units := range row {
			sum += units
		}
		sums = append(sums, sum)
	}
	for out := range table {
		sum := 0
		for in := range table {
			sum += table[in][out]
		}
		sums = append(sums, sum)
	}
	return sums
}

// mostOf returns the greatest sum of a line, 0 if there are none.
func mostOf(table [][]int) int {
	return slices.Max(append(sumsOf(table), 0))
}

func isEven(table [][]int) bool {
	return len(slices.Compact(sumsOf(table))) <= 1
}

// countingTables visits all tables of so many ports whose numbers are at most units.
func countingTables(ports int, units int, visit func(table [][]int)) {
	table := square(ports, 0)
	for {
		visit(cloneTable(table))
		cell := 0
		for cell < ports*ports && table[cell/ports][cell%ports] == units {
			table[cell/ports][cell%ports] = 0
			cell++
		}
		if cell == ports*ports {
			return
		}
		table[cell/ports][cell%ports]++
	}
}

// chain returns traffic in which the last input takes the first output from all others, one after the other.
func chain(ports int) [][]int {
	table := square(ports, 0)
	for in := range table {
		table[in][in] = 1
		table[in][(in+1)%ports] = 1
	}
	if ports > 0 {
		table[ports-1][ports-1] = 0
		table[ports-1][0] = 1
	}
	return table
}

// evenTables visits traffic with equal sums: the same number everywhere, and sums of permutations.
func evenTables(visit func(table [][]int)) {
	for ports := range most + 1 {
		for units := range impl.MaxUnits + 1 {
			visit(square(ports, units))
		}
	}
	for units := range 7 {
		for other := range 7 {
			visit([][]int{{units, other}, {other, units}})
		}
	}
	row := &numbers{state: 7}
	for ports := 1; ports <= most; ports++ {
		for k := range 300 {
			table := square(ports, 0)
			for range 1 + k%24 {
				p := row.perm(ports)
				if next := loaded(table, p); next != nil {
					table = next
				}
			}
			visit(table)
		}
	}
}

// loaded returns a table with a permutation more, or nil if this is too much.
func loaded(table [][]int, p []int) [][]int {
	next := cloneTable(table)
	for in, out := range p {
		next[in][out]++
		if next[in][out] > 6 {
			return nil
		}
	}
	return next
}

// tables visits valid traffic of all numbers of ports, even and not.
func tables(visit func(table [][]int)) {
	visit(nil)
	countingTables(1, 6, visit)
	countingTables(2, 6, visit)
	countingTables(3, 2, visit)
	countingTables(4, 1, visit)
	evenTables(visit)
	row := &numbers{state: 1}
	for ports := 2; ports <= most; ports++ {
		visit(chain(ports))
		for k := range 1500 {
			table := square(ports, 0)
			for in := range table {
				for out := range table[in] {
					if row.below(10) < 1+k%9 {
						table[in][out] = 1 + row.below(6)
					}
				}
			}
			visit(table)
		}
	}
}

// badTables visits tables that are no valid traffic.
func badTables(visit func(table [][]int)) {
	for _, table := range [][][]int{{nil}, {{}}, {nil, nil}, {{0, 0}}, {{0}, {0}}, {{1, 1}, {1}}, {{1}, {1, 1}}, {{7}}, {{-1}}, {{-1, 2}, {2, -1}}, {{7, 0}, {0, 7}}} {
		visit(table)
	}
	visit(make([][]int, most+1))
	for ports := most + 1; ports < most+4; ports++ {
		visit(square(ports, 0))
		visit(square(ports, 1))
		visit(chain(ports))
	}
	for ports := 1; ports <= most; ports++ {
		for _, table := range [][][]int{square(ports, 0), square(ports, 1), square(ports, 6), chain(ports)} {
			visit(append(cloneTable(table), make([]int, ports)))
			if ports > 1 {
				visit(cloneTable(table)[:ports-1])
			}
			spoiled(table, visit)
		}
	}
}

// spoiled visits a table with a row of another length, and with a number that is negative or too great, at each place.
func spoiled(table [][]int, visit func(table [][]int)) {
	for in := range table {
		for _, row := range [][]int{nil, table[in][1:], append(slices.Clone(table[in]), 0)} {
			if len(row) != len(table) {
				bad := cloneTable(table)
				bad[in] = row
				visit(bad)
			}
		}
		for out := range table {
			for _, units := range []int{-1, 7, math.MinInt, math.MaxInt} {
				bad := cloneTable(table)
				bad[in][out] = units
				visit(bad)
			}
		}
	}
}

// withRoom returns the same numbers with other ones in the spare memory behind them, which nobody may write to either.
func withRoom(list []int) []int {
	all := append(slices.Clone(list), 101, 102, 103)
	return all[:len(list)]
}

// rowsWithRoom does so with a table, whose rows are parts of one list.
func rowsWithRoom(table [][]int) [][]int {
	cells := []int{}
	for _, row := range table {
		cells = append(append(cells, row...), 101, 102)
	}
	all := [][]int{}
	for _, row := range table {
		all = append(all, cells[:len(row)])
		cells = cells[len(row)+2:]
	}
	all = append(all, []int{104}, []int{105})
	return all[:len(table)]
}

// seen is what the memory of a table was, spare memory included.
type seen struct {
	rows  [][]int
	cells [][]int
}

func look(table [][]int) seen {
	s := seen{}
	for _, row := range table[:cap(table)] {
		s.rows = append(s.rows, row)
		s.cells = append(s.cells, slices.Clone(row[:cap(row)]))
	}
	return s
}

// unchanged fails the test if anything of the table is not what it was.
func (s seen) unchanged(t *testing.T, what string, table [][]int) {
	t.Helper()
	for k, row := range table[:cap(table)] {
		if len(row) != len(s.rows[k]) || cap(row) != cap(s.rows[k]) || cap(row) > 0 && &row[:1][0] != &s.rows[k][:1][0] {
			t.Fatalf("%s: the row %d was replaced", what, k)
		}
		if !slices.Equal(row[:cap(row)], s.cells[k]) {
			t.Fatalf("%s: the row %d was written to: %v, not %v", what, k, row[:cap(row)], s.cells[k])
		}
	}
}

// overwrite fills all memory of a list.
func overwrite(list []int) {
	for k := range list[:cap(list)] {
		list[:cap(list)][k] = -77
	}
}

// apart fails the test if two rows of a result share memory with each other.
func apart(t *testing.T, what string, rows [][]int) {
	t.Helper()
	for k := range rows {
		before := cloneTable(rows)
		overwrite(rows[k])
		for m := range rows {
			if m != k && !slices.Equal(rows[m], before[m]) {
				t.Fatalf("%s: the rows %d and %d of the result share memory", what, k, m)
			}
		}
		copy(rows[k], before[k])
	}
	for k := range rows {
		overwrite(rows[k])
	}
	for k := range rows[:cap(rows)] {
		rows[:cap(rows)][k] = nil
	}
}
