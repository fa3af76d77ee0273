package tests

import (
	"math"
	"slices"
	"strings"
	"testing"

	"loop.example/circuitswitching/impl"
)

// mostRoutes is impl.MaxRoutes written out, so that a changed constant is noticed.
const mostRoutes = 8

// routesOf returns a table of what routes begin with, "-" for the empty beginning, and of their outlets.
func routesOf(begins string, outs ...int) []impl.Route {
	table := []impl.Route{}
	for k, begin := range strings.Fields(begins) {
		table = append(table, impl.Route{Begin: strings.TrimPrefix(begin, "-"), Out: outs[k]})
	}
	return table
}

// placedRoute returns a table with a route more, at a place.
func placedRoute(table []impl.Route, place int, begin string, out int) []impl.Route {
	return slices.Insert(slices.Clone(table), place, impl.Route{Begin: begin, Out: out})
}

// removedRoute returns a table without the route at a place.
func removedRoute(table []impl.Route, place int) []impl.Route {
	return slices.Delete(slices.Clone(table), place, place+1)
}

func hasBegin(table []impl.Route, begin string) bool {
	return slices.ContainsFunc(table, func(route impl.Route) bool { return route.Begin == begin })
}

// anyRoutes returns a table of at most so many routes with some beginnings and with outlets below a number.
func anyRoutes(row *numbers, many int, from []string, outs int) []impl.Route {
	table := []impl.Route{}
	for range 2 * many {
		begin := from[row.below(len(from))]
		if len(table) < many && !hasBegin(table, begin) {
			table = append(table, impl.Route{Begin: begin, Out: row.below(outs)})
		}
	}
	return table
}

// chains visits tables of beginnings that begin with each other, in all orders and with all outlets of two.
func chains(visit func(table []impl.Route)) {
	for _, order := range permsOf(4) {
		for n := range 16 {
			table := []impl.Route{}
			for k, bit := range bitsOf(n, 4) {
				table = append(table, impl.Route{Begin: "231"[:order[k]], Out: 50 * bit})
			}
			visit(table)
		}
	}
}

// routeTables visits valid tables: of no routes, of one and two, with and without the empty beginning, and of many.
func routeTables(visit func(table []impl.Route)) {
	visit(nil)
	for _, begin := range begins() {
		visit([]impl.Route{{Begin: begin, Out: 0}})
		visit([]impl.Route{{Begin: begin, Out: 99}})
	}
	few := []string{"", "0", "1", "01", "013", "10"}
	for _, a := range few {
		for _, b := range few {
			for out := range 2 {
				if a != b {
					visit([]impl.Route{{Begin: a, Out: 7}, {Begin: b, Out: 7 * out}})
				}
			}
		}
	}
	chains(func(table []impl.Route) {
		visit(table)
		visit(table[1:])
	})
	row := &numbers{state: 107}
	for k := range 6000 {
		from := begins()
		if k%4 > 0 {
			from = []string{"", "0", "2", "3", "00", "03", "22", "23", "30", "000", "033", "230", "231", "232", "233", "301"}
		}
		visit(anyRoutes(row, 1+k%mostRoutes, from, []int{1, 2, 3, 100}[k/8%4]))
	}
}

// badRouteTables visits tables that are not valid: with too many routes, with a Begin that is none or is there twice, or with an Out that is none.
func badRouteTables(visit func(table []impl.Route)) {
	nine := []impl.Route{}
	for _, begin := range begins()[:mostRoutes+1] {
		nine = append(nine, impl.Route{Begin: begin, Out: 1})
	}
	visit(nine)
	visit(make([]impl.Route, 1000))
	for _, table := range [][]impl.Route{nil, routesOf("-", 0), routesOf("1", 5), routesOf("- 1 12 13", 0, 5, 5, 0), routesOf("123 12 0", 1, 1, 99), nine[:7]} {
		for place := range len(table) + 1 {
			for _, begin := range []string{"0000", "1230", "4", "04", "124", "/", ":", " ", "-", "1 ", " 1", "\x00", "\xff", "\u0660", "a", "x12", strings.Repeat("1", 1000)} {
				visit(placedRoute(table, place, begin, 1))
			}
			for _, out := range []int{-1, 100, 101, -99, math.MinInt, math.MaxInt} {
				visit(placedRoute(table, place, "3", out))
			}
			for _, route := range table {
				visit(placedRoute(table, place, route.Begin, route.Out))
				visit(placedRoute(table, place, route.Begin, 42))
			}
		}
	}
}

// isTable tells whether a table is valid.
func isTable(table []impl.Route) bool {
	known, possible := map[string]bool{}, begins()
	for _, route := range table {
		known[route.Begin] = true
		if !slices.Contains(possible, route.Begin) || route.Out < 0 || route.Out > 99 {
			return false
		}
	}
	return len(known) == len(table) && len(table) <= mostRoutes
}

// wantOut looks for all beginnings of a text, the longest one first.
func wantOut(table []impl.Route, s string) int {
	for length := min(len(s), mostLong); length >= 0; length-- {
		for _, route := range table {
			if route.Begin == s[:length] {
				return route.Out
			}
		}
	}
	return -1
}

// wantLess marks the routes that do not matter, and looks at each with all that are not marked yet.
func wantLess(table []impl.Route) []impl.Route {
	less := slices.Clone(table)
	for length := mostLong; length >= 0; length-- {
		for _, route := range table {
			if len(route.Begin) != length {
				continue
			}
			others := []impl.Route{}
			for _, other := range less {
				if other.Begin != route.Begin {
					others = append(others, other)
				}
			}
			if wantOut(others, route.Begin) == route.Out {
				less = others
			}
		}
	}
	return less
}

// Promise 70, RoutesValid: routes can be taken away; without its first one a valid table is valid, and with the first one twice it is not.
func TestRoutesCanBeTakenAway(t *testing.T) {
	routeTables(func(table []impl.Route) {
		if !impl.RoutesValid(table) || !isTable(table) {
			t.Fatal(table)
		}
		if len(table) == 0 {
			return
		}
		if !impl.RoutesValid(table[1:]) {
			t.Fatal(table[1:])
		}
		for place := range len(table) + 1 {
			if impl.RoutesValid(placedRoute(table, place, table[0].Begin, table[0].Out)) || impl.RoutesValid(placedRoute(table, place, table[0].Begin, 98)) {
				t.Fatal(table, place)
			}
			more := placedRoute(table, place, "011", 3)
			if impl.RoutesValid(more) != isTable(more) {
				t.Fatal(more)
			}
		}
	})
	badRouteTables(func(table []impl.Route) {
		if impl.RoutesValid(table) || isTable(table) {
			t.Fatal(table)
		}
	})
}

// Tables have from none to MaxRoutes routes, and outlets from 0 to MaxOften.
func TestRoutesThatThereMayBe(t *testing.T) {
	all := []impl.Route{}
	for many, begin := range begins() {
		if impl.RoutesValid(all) != (many <= 8) {
			t.Fatal(many)
		}
		all = append(all, impl.Route{Begin: begin, Out: many})
	}
	for out := -150; out < 250; out++ {
		for _, begin := range []string{"", "0", "33", "123"} {
			if impl.RoutesValid([]impl.Route{{Begin: begin, Out: out}}) != (out >= 0 && out <= 99) {
				t.Fatal(begin, out)
			}
		}
	}
	if !impl.RoutesValid(nil) || !impl.RoutesValid([]impl.Route{}) {
		t.Fatal("no routes")
	}
}

// Promise 71, RouteOf: the longest beginning wins; digits behind the first MaxLong ones do not matter.
func TestTheLongestBeginningWins(t *testing.T) {
	row := &numbers{state: 109}
	routeTables(func(table []impl.Route) {
		texts := []string{"", "2", "23", "231", anyDigits(row, 1), anyDigits(row, 2), anyDigits(row, 3), anyDigits(row, 7)}
		for _, route := range table {
			texts = append(texts, route.Begin, route.Begin+anyDigits(row, 1), route.Begin+anyDigits(row, 3))
		}
		for _, s := range texts {
			out := impl.RouteOf(table, s)
			if out != wantOut(table, s) {
				t.Fatal(table, s, out)
			}
			if len(s) >= 3 && (impl.RouteOf(table, s[:3]) != out || impl.RouteOf(table, s+anyDigits(row, 2)) != out) {
				t.Fatal(table, s, out)
			}
			has := slices.DeleteFunc(slices.Clone(table), func(route impl.Route) bool { return !strings.HasPrefix(s, route.Begin) })
			for _, route := range has {
				if !slices.ContainsFunc(has, func(other impl.Route) bool { return len(other.Begin) > len(route.Begin) }) && out != route.Out {
					t.Fatal(table, s, route, out)
				}
			}
			if len(has) == 0 && out != -1 {
				t.Fatal(table, s, out)
			}
		}
	})
}

// All texts of a few digits, in tables with the empty beginning, without it, and of no routes.
func TestRouteOfAllTexts(t *testing.T) {
	for _, table := range [][]impl.Route{nil, routesOf("-", 0), routesOf("-", 99), routesOf("2", 0), routesOf("- 1 12 13", 0, 5, 5, 0), routesOf("13 12 1 -", 0, 5, 5, 9), routesOf("123 1 2", 7, 8, 0), routesOf("0 1 2 3 00 30 003 303", 1, 2, 3, 4, 5, 6, 7, 8)} {
		for length := range 6 {
			for _, s := range textsOf(length) {
				if out := impl.RouteOf(table, s); out != wantOut(table, s) {
					t.Fatal(table, s, out)
				}
			}
		}
		long := "123" + strings.Repeat("30", 50000)
		if impl.RouteOf(table, long) != impl.RouteOf(table, "123") || impl.RouteOf(table, long+"4") != -1 {
			t.Fatal(table)
		}
	}
	cases := []struct {
		table []impl.Route
		s     string
		out   int
	}{
		{nil, "", -1},
		{nil, "012", -1},
		{routesOf("-", 4), "", 4},
		{routesOf("-", 4), "3", 4},
		{routesOf("1", 4), "", -1},
		{routesOf("12", 4), "1", -1},
		{routesOf("12", 4), "120", 4},
		{routesOf("12", 4), "2", -1},
		{routesOf("- 1 12 123", 1, 2, 3, 4), "1232", 4},
		{routesOf("123 12 1 -", 1, 2, 3, 4), "122", 2},
		{routesOf("12 - 123 1", 1, 2, 3, 4), "10", 4},
		{routesOf("12 - 123 1", 1, 2, 3, 4), "012", 2},
	}
	for _, c := range cases {
		if out := impl.RouteOf(c.table, c.s); out != c.out {
			t.Fatal(c.table, c.s, out)
		}
	}
}

// Promise 25, RoutesLess: what does not matter can go; every number goes to the same outlet as before, and no further route can be left out.
func TestWhatDoesNotMatterCanGo(t *testing.T) {
	shorter := 0
	texts := append(begins(), textsOf(4)[90:100]...)
	routeTables(func(table []impl.Route) {
		less := impl.RoutesLess(table)
		if want := wantLess(table); !slices.Equal(less, want) {
			t.Fatal(table, less, want)
		}
		for _, s := range texts {
			if impl.RouteOf(less, s) != impl.RouteOf(table, s) {
				t.Fatal(table, less, s)
			}
		}
		for place := range less {
			rest := removedRoute(less, place)
			if !slices.ContainsFunc(table, func(route impl.Route) bool { return impl.RouteOf(rest, route.Begin) != route.Out }) {
				t.Fatal(table, less, place)
			}
		}
		if !slices.Equal(impl.RoutesLess(less), less) {
			t.Fatal(table, less)
		}
		if len(less) < len(table) {
			shorter++
		}
	})
	if shorter < 1000 {
		t.Fatal("too few tables that can be shorter", shorter)
	}
}

// Tables that were made less by hand: a route goes if the next shorter one that is left has its outlet.
func TestRoutesLessByHand(t *testing.T) {
	cases := []struct {
		table []impl.Route
		less  []impl.Route
	}{
		{nil, nil},
		{routesOf("-", 3), routesOf("-", 3)},
		{routesOf("12", 0), routesOf("12", 0)},
		{routesOf("- 1 12 13", 0, 5, 5, 0), routesOf("- 1 13", 0, 5, 0)},
		{routesOf("- 1 12 123", 5, 5, 5, 5), routesOf("-", 5)},
		{routesOf("123 12 1 -", 5, 5, 5, 5), routesOf("-", 5)},
		{routesOf("123 12 1", 5, 5, 5), routesOf("1", 5)},
		{routesOf("- 1 12 123", 0, 5, 0, 5), routesOf("- 1 12 123", 0, 5, 0, 5)},
		{routesOf("- 1 123", 5, 0, 5), routesOf("- 1 123", 5, 0, 5)},
		{routesOf("- 123", 5, 5), routesOf("-", 5)},
		{routesOf("0 1 2 3", 5, 5, 5, 5), routesOf("0 1 2 3", 5, 5, 5, 5)},
		{routesOf("0 1 2 3 -", 5, 5, 5, 5, 4), routesOf("0 1 2 3 -", 5, 5, 5, 5, 4)},
		{routesOf("33 030 3 0 - 03 303", 1, 2, 0, 1, 0, 2, 0), routesOf("33 0 - 03", 1, 1, 0, 2)},
	}
	for _, c := range cases {
		if less := impl.RoutesLess(c.table); !slices.Equal(less, c.less) {
			t.Fatal(c.table, less)
		}
	}
}

// For tables that are not valid, and for texts with other bytes, there is one fixed result, even if a route fits.
func TestRoutesThatAreNotValid(t *testing.T) {
	badRouteTables(func(table []impl.Route) {
		if less := impl.RoutesLess(table); len(less) != 0 {
			t.Fatal(table, less)
		}
		for _, s := range []string{"", "0", "1", "12", "123", "3", "4", "0000", "1230"} {
			if out := impl.RouteOf(table, s); out != -1 {
				t.Fatal(table, s, out)
			}
		}
	})
	for _, table := range [][]impl.Route{nil, routesOf("-", 5), routesOf("- 1 12 13", 0, 5, 5, 0)} {
		for _, wrong := range noDigits() {
			for _, s := range []string{wrong, "1" + wrong, "12" + wrong, "123" + wrong, "1230" + wrong, wrong + "12"} {
				if out := impl.RouteOf(table, s); out != -1 {
					t.Fatalf("%q %d", s, out)
				}
			}
		}
	}
}

// routesApart fails the test if results share memory with the argument or with each other, or if the argument was written to.
func routesApart(t *testing.T, table []impl.Route) {
	t.Helper()
	table = roomBehind(table, routesOf("333 3", 77, 100)...)
	before := slices.Clone(table[:cap(table)])
	impl.RoutesValid(table)
	impl.RouteOf(table, "0123")
	less, other := impl.RoutesLess(table), impl.RoutesLess(table)
	wanted := slices.Clone(less)
	sameMemory(t, "a table", table, before)
	filled(other, impl.Route{Begin: "overwritten", Out: -7})
	if !slices.Equal(less, wanted) {
		t.Fatal("tables share memory", table)
	}
	filled(less, impl.Route{Begin: "overwritten", Out: -7})
	sameMemory(t, "a table", table, before)
	if again := impl.RoutesLess(table); !slices.Equal(again, wanted) {
		t.Fatal("a result was kept", table, again)
	}
}

func TestRoutesAreNotWrittenToAndNotShared(t *testing.T) {
	routeTables(func(table []impl.Route) { routesApart(t, table) })
	badRouteTables(func(table []impl.Route) { routesApart(t, table) })
}
