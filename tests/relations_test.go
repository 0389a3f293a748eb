package tests

import (
	"math"
	"slices"
	"testing"

	"loop.example/wholerules/impl"
)

func rel(wide int, rows ...[]int) impl.Rel {
	return impl.Rel{Wide: wide, Rows: rows}
}

func TestRelOk(t *testing.T) {
	cases := []struct {
		name string
		rel  impl.Rel
		want bool
	}{
		{"zero value", impl.Rel{}, true},
		{"no columns, no rows", rel(0), true},
		{"no columns, a row", rel(0, []int{}), true},
		{"no columns, two rows", rel(0, []int{}, []int{}), false},
		{"no columns, a row with a constant", rel(0, []int{1}), false},
		{"no rows", rel(3), true},
		{"a column", rel(1, []int{0}, []int{3}, []int{5}), true},
		{"twice", rel(1, []int{1}, []int{1}), false},
		{"twice, behind others", rel(2, []int{0, 1}, []int{1, 1}, []int{1, 1}), false},
		{"out of order", rel(1, []int{2}, []int{1}), false},
		{"out of order, the last", rel(2, []int{0, 1}, []int{2, 2}, []int{1, 3}), false},
		{"by the first constant that differs", rel(3, []int{0, 2, 5}, []int{0, 3, 0}, []int{1, 0, 0}), true},
		{"by a later constant", rel(3, []int{0, 3, 0}, []int{0, 2, 5}), false},
		{"by the last constant", rel(3, []int{1, 1, 3}, []int{1, 1, 2}), false},
		{"a row too short", rel(2, []int{0, 1}, []int{2}), false},
		{"a row too long", rel(2, []int{0, 1, 2}, []int{2, 0}), false},
		{"a row without constants", rel(1, []int{}, []int{2}), false},
		{"as wide as may be", rel(impl.MaxWide, []int{0, 1, 2, 3, 4, 5}), true},
		{"as wide as may be, all the least and all the greatest", rel(impl.MaxWide, []int{0, 0, 0, 0, 0, 0}, []int{5, 5, 5, 5, 5, 5}), true},
		{"too wide", rel(impl.MaxWide+1, []int{0, 1, 2, 3, 4, 5, 0}), false},
		{"too wide, no rows", rel(impl.MaxWide + 1), false},
		{"wide below 0", rel(-1), false},
		{"least number", rel(math.MinInt), false},
		{"greatest number", rel(math.MaxInt), false},
		{"as many rows as may be", firstRows(5, impl.MaxRows), true},
		{"a row too many", firstRows(5, impl.MaxRows+1), false},
	}
	for _, c := range cases {
		if got := impl.RelOk(c.rel); got != c.want {
			t.Errorf("%s: RelOk = %v", c.name, got)
		}
	}
	for _, n := range noConstants() {
		for _, r := range []impl.Rel{rel(1, []int{n}), rel(2, []int{0, n}), rel(2, []int{0, 0}, []int{n, 0}), rel(3, []int{n, 1, 1}, []int{5, 5, 5})} {
			if impl.RelOk(r) {
				t.Errorf("RelOk(%v)", r)
			}
		}
	}
}

func TestRelOkOfEveryShortList(t *testing.T) {
	rows := [][]int{{}, {0}, {1}, {6}, {-1}, {0, 0}, {0, 5}, {1, 0}}
	for many := range 4 {
		for n := range power(len(rows), many) {
			var list [][]int
			for _, i := range digits(n, len(rows), many) {
				list = append(list, rows[i])
			}
			for wide := -1; wide <= 3; wide++ {
				if r := rel(wide, list...); impl.RelOk(r) != plainRelOk(r) {
					t.Fatalf("RelOk(%v) = %v", r, impl.RelOk(r))
				}
			}
		}
	}
}

func TestRelOf(t *testing.T) {
	list := []impl.Fact{fact(2, 5, 0), fact(0), fact(2, 1, 3), fact(1, 4), fact(2, 5, 0), fact(2, 3), fact(-1, 4), fact(2, 1, 2, 3), fact(30, 1), fact(2, 1, 0), fact(2)}
	cases := []struct {
		pred, places int
		want         impl.Rel
	}{
		{2, 2, rel(2, []int{1, 0}, []int{1, 3}, []int{5, 0})},
		{2, 1, rel(1, []int{3})},
		{2, 0, rel(0, []int{})},
		{0, 0, rel(0, []int{})},
		{0, 1, rel(1)},
		{0, 2, rel(2)},
		{1, 1, rel(1, []int{4})},
		{1, 0, rel(0)},
		{-1, 1, rel(1, []int{4})},
		{30, 1, rel(1, []int{1})},
		{7, 2, rel(2)},
		{math.MinInt, 1, rel(1)},
		{math.MaxInt, 1, rel(1)},
	}
	for _, c := range cases {
		if got := impl.RelOf(list, c.pred, c.places); !sameRel(got, c.want) {
			t.Errorf("RelOf(.., %d, %d) = %v", c.pred, c.places, got)
		}
		if got := impl.RelOf(nil, c.pred, c.places); !sameRel(got, rel(c.places)) {
			t.Errorf("RelOf(nil, %d, %d) = %v", c.pred, c.places, got)
		}
	}
	for _, places := range []int{-1, 3, math.MinInt, math.MaxInt} {
		if got := impl.RelOf(list, 2, places); !sameRel(got, impl.Rel{}) {
			t.Errorf("RelOf(.., 2, %d) = %v", places, got)
		}
	}
	for _, n := range noConstants() {
		for _, bad := range []impl.Fact{fact(2, n, 0), fact(2, 0, n), fact(0, n), fact(9, 1, 2, 3, n)} {
			for _, all := range [][]impl.Fact{append(slices.Clone(list), bad), append([]impl.Fact{bad}, list...), {bad}} {
				if got := impl.RelOf(all, 2, 2); !sameRel(got, impl.Rel{}) {
					t.Errorf("RelOf with %v = %v", bad, got)
				}
			}
		}
	}
}

func TestRelOfAllFacts(t *testing.T) {
	for _, pred := range []int{0, 5, impl.MaxPreds - 1} {
		for places := range impl.MaxArity + 1 {
			list := slices.Concat(impl.AllFacts(pred, places), impl.AllFacts(3, 2), impl.AllFacts(pred, places))
			slices.Reverse(list)
			got := impl.RelOf(list, pred, places)
			if !sameRel(got, firstRows(places, power(6, places))) || !impl.RelOk(got) {
				t.Errorf("RelOf of all facts of %d with %d places = %v", pred, places, got)
			}
		}
	}
}

func TestRelTake(t *testing.T) {
	wide := rel(3, []int{0, 2, 1}, []int{1, 2, 1}, []int{4, 0, 5}, []int{4, 2, 5})
	cases := []struct {
		name string
		rel  impl.Rel
		cols []int
		want impl.Rel
	}{
		{"all", wide, []int{0, 1, 2}, wide},
		{"one", wide, []int{1}, rel(1, []int{0}, []int{2})},
		{"in another order", wide, []int{2, 0}, rel(2, []int{1, 0}, []int{1, 1}, []int{5, 4})},
		{"reversed", wide, []int{2, 1, 0}, rel(3, []int{1, 2, 0}, []int{1, 2, 1}, []int{5, 0, 4}, []int{5, 2, 4})},
		{"twice", wide, []int{2, 2}, rel(2, []int{1, 1}, []int{5, 5})},
		{"twice, apart", wide, []int{1, 2, 1}, rel(3, []int{0, 5, 0}, []int{2, 1, 2}, []int{2, 5, 2})},
		{"six times", wide, []int{1, 1, 1, 1, 1, 1}, rel(6, []int{0, 0, 0, 0, 0, 0}, []int{2, 2, 2, 2, 2, 2})},
		{"none, of rows", wide, nil, rel(0, []int{})},
		{"none, of no rows", rel(3), nil, rel(0)},
		{"none, of no columns", rel(0, []int{}), nil, rel(0, []int{})},
		{"none, of nothing", rel(0), nil, rel(0)},
		{"of no rows", rel(2), []int{1, 0, 1}, rel(3)},
		{"seven times", wide, []int{1, 1, 1, 1, 1, 1, 1}, impl.Rel{}},
		{"seven times, of no rows", rel(1), make([]int, 7), impl.Rel{}},
	}
	for _, c := range cases {
		if got := impl.RelTake(c.rel, c.cols); !sameRel(got, c.want) {
			t.Errorf("%s: RelTake(%v, %v) = %v", c.name, c.rel, c.cols, got)
		}
	}
}

func TestRelJoin(t *testing.T) {
	edges := rel(2, []int{0, 1}, []int{1, 2})
	tail := rel(1, []int{1}, []int{3})
	row := rel(0, []int{})
	cases := []struct {
		name        string
		a, b        impl.Rel
		left, right []int
		want        impl.Rel
	}{
		{"with itself", edges, edges, []int{1}, []int{0}, rel(4, []int{0, 1, 1, 2})},
		{"the same columns", edges, edges, []int{0}, []int{0}, rel(4, []int{0, 1, 0, 1}, []int{1, 2, 1, 2})},
		{"no pairs", edges, tail, nil, nil, rel(3, []int{0, 1, 1}, []int{0, 1, 3}, []int{1, 2, 1}, []int{1, 2, 3})},
		{"of another width", edges, tail, []int{1}, []int{0}, rel(3, []int{0, 1, 1})},
		{"of another width, in front", tail, edges, []int{0}, []int{0}, rel(3, []int{1, 1, 2})},
		{"two pairs", edges, rel(2, []int{1, 0}, []int{1, 2}, []int{2, 1}), []int{0, 1}, []int{1, 0}, rel(4, []int{0, 1, 1, 0}, []int{1, 2, 2, 1})},
		{"a pair twice", edges, edges, []int{1, 1}, []int{0, 0}, rel(4, []int{0, 1, 1, 2})},
		{"a pair six times", edges, edges, []int{1, 1, 1, 1, 1, 1}, []int{0, 0, 0, 0, 0, 0}, rel(4, []int{0, 1, 1, 2})},
		{"a column of a twice", tail, rel(2, []int{1, 1}, []int{1, 3}, []int{3, 3}), []int{0, 0}, []int{0, 1}, rel(3, []int{1, 1, 1}, []int{3, 3, 3})},
		{"a column of b twice", rel(2, []int{1, 1}, []int{1, 3}), tail, []int{1, 0}, []int{0, 0}, rel(3, []int{1, 1, 1})},
		{"pair by pair, not one of them", edges, edges, []int{0, 1}, []int{1, 0}, rel(4)},
		{"none fit", edges, tail, []int{0}, []int{0}, rel(3, []int{1, 2, 1})},
		{"rows of both twice", rel(2, []int{0, 2}, []int{1, 2}), rel(2, []int{2, 0}, []int{2, 4}), []int{1}, []int{0}, rel(4, []int{0, 2, 2, 0}, []int{0, 2, 2, 4}, []int{1, 2, 2, 0}, []int{1, 2, 2, 4})},
		{"fitting rows apart", rel(2, []int{0, 2}, []int{0, 3}, []int{1, 2}), rel(2, []int{0, 2}, []int{1, 3}, []int{4, 2}), []int{1}, []int{1}, rel(4, []int{0, 2, 0, 2}, []int{0, 2, 4, 2}, []int{0, 3, 1, 3}, []int{1, 2, 0, 2}, []int{1, 2, 4, 2})},
		{"with no rows", edges, rel(1), nil, nil, rel(3)},
		{"no rows, with a pair", rel(1), edges, []int{0}, []int{1}, rel(3)},
		{"no columns, a row", edges, row, nil, nil, edges},
		{"no columns, a row, in front", row, edges, nil, nil, edges},
		{"no columns, no row", edges, rel(0), nil, nil, rel(2)},
		{"no columns in both", row, row, nil, nil, row},
		{"no columns in both, a row of one", row, rel(0), nil, nil, rel(0)},
	}
	for _, c := range cases {
		if got, ok := impl.RelJoin(c.a, c.b, c.left, c.right); !ok || !sameRel(got, c.want) {
			t.Errorf("%s: RelJoin(%v, %v, %v, %v) = %v, %v", c.name, c.a, c.b, c.left, c.right, got, ok)
		}
		if got, ok := impl.RelTimes(c.a, c.b); len(c.left) == 0 && (!ok || !sameRel(got, c.want)) {
			t.Errorf("%s: RelTimes(%v, %v) = %v, %v", c.name, c.a, c.b, got, ok)
		}
	}
}

func TestRelWithout(t *testing.T) {
	edges := rel(2, []int{0, 1}, []int{1, 2}, []int{2, 2})
	row := rel(0, []int{})
	cases := []struct {
		name        string
		a, b        impl.Rel
		left, right []int
		want        impl.Rel
	}{
		{"no edge behind", rel(2, []int{0, 1}, []int{1, 2}), rel(2, []int{0, 1}, []int{1, 2}), []int{1}, []int{0}, rel(2, []int{1, 2})},
		{"of another width", edges, rel(1, []int{1}), []int{0}, []int{0}, rel(2, []int{0, 1}, []int{2, 2})},
		{"two pairs", edges, rel(2, []int{1, 0}, []int{1, 2}), []int{0, 1}, []int{1, 0}, rel(2, []int{1, 2}, []int{2, 2})},
		{"a column twice", edges, rel(1, []int{2}), []int{0, 1}, []int{0, 0}, rel(2, []int{0, 1}, []int{1, 2})},
		{"a column of b twice, of a once", edges, rel(2, []int{1, 2}, []int{2, 2}), []int{1, 1}, []int{0, 1}, rel(2, []int{0, 1})},
		{"no pairs, some rows", edges, rel(1, []int{5}), nil, nil, rel(2)},
		{"no pairs, a row without columns", edges, row, nil, nil, rel(2)},
		{"no pairs, no rows", edges, rel(3), nil, nil, edges},
		{"no rows", edges, rel(2), []int{0}, []int{1}, edges},
		{"of no rows", rel(2), edges, []int{0}, []int{1}, rel(2)},
		{"none fits", edges, rel(1, []int{5}), []int{1}, []int{0}, edges},
		{"each fits", edges, edges, []int{1}, []int{1}, rel(2)},
		{"no columns", row, row, nil, nil, rel(0)},
		{"no columns, no row", row, rel(0), nil, nil, row},
	}
	for _, c := range cases {
		if got := impl.RelWithout(c.a, c.b, c.left, c.right); !sameRel(got, c.want) {
			t.Errorf("%s: RelWithout(%v, %v, %v, %v) = %v", c.name, c.a, c.b, c.left, c.right, got)
		}
	}
}

// The rows that are picked are held against all rows, for constants and numbers that are none.
func TestRowsOfEveryRelation(t *testing.T) {
	for _, r := range manyRels() {
		for a := range r.Wide {
			for _, c := range append(noConstants(), 0, 1, 2, 3, 4, 5) {
				checkRows(t, "RelPick", impl.RelPick(r, a, c), r, func(row []int) bool { return row[a] == c })
			}
			for b := range r.Wide {
				checkRows(t, "RelSame", impl.RelSame(r, a, b), r, func(row []int) bool { return row[a] == row[b] })
			}
		}
		for many := range 5 {
			for n := range power(r.Wide, many) {
				cols := digits(n, r.Wide, many)
				var rows [][]int
				for _, row := range r.Rows {
					rows = append(rows, plainColumns(row, cols))
				}
				if got := impl.RelTake(r, cols); !sameRel(got, plainRel(many, rows)) || !impl.RelOk(got) {
					t.Fatalf("RelTake(%v, %v) = %v", r, cols, got)
				}
			}
		}
	}
}

// checkRows checks that a relation has just the rows of another one for which something is true, in their order.
func checkRows(t *testing.T, name string, got, r impl.Rel, keep func(row []int) bool) {
	t.Helper()
	want := rel(r.Wide)
	for _, row := range r.Rows {
		if keep(row) {
			want.Rows = append(want.Rows, row)
		}
	}
	if !sameRel(got, want) {
		t.Fatalf("%s of %v = %v, want %v", name, r, got, want)
	}
}

// Joins are held against all rows beside each other, and against what RelSame picks of RelTimes.
func TestJoinsOfEveryTwoRelations(t *testing.T) {
	for _, a := range manyRels() {
		for _, b := range manyRels() {
			times, ok := impl.RelTimes(a, b)
			if !ok {
				t.Fatalf("RelTimes(%v, %v) is nothing", a, b)
			}
			for _, pairs := range pairLists(a.Wide, b.Wide) {
				left, right := pairs[0], pairs[1]
				got, ok := impl.RelJoin(a, b, left, right)
				if !ok || !sameRel(got, plainJoin(a, b, left, right)) || !impl.RelOk(got) {
					t.Fatalf("RelJoin(%v, %v, %v, %v) = %v, %v", a, b, left, right, got, ok)
				}
				picked := times
				for i := range left {
					picked = impl.RelSame(picked, left[i], a.Wide+right[i])
				}
				if !sameRel(got, picked) {
					t.Fatalf("RelJoin(%v, %v, %v, %v) = %v, but %v is picked", a, b, left, right, got, picked)
				}
				without := impl.RelWithout(a, b, left, right)
				checkRows(t, "RelWithout", without, a, func(row []int) bool {
					return !slices.ContainsFunc(b.Rows, func(other []int) bool {
						return slices.Equal(plainColumns(row, left), plainColumns(other, right))
					})
				})
				if fitting := impl.RelTake(got, numbersTo(a.Wide)); !sameRel(without, impl.RelLess(a, fitting)) {
					t.Fatalf("RelWithout(%v, %v, %v, %v) = %v, but %v fit", a, b, left, right, without, fitting)
				}
			}
		}
	}
}

func TestSetsOfEveryTwoRelations(t *testing.T) {
	for _, a := range manyRels() {
		for _, b := range manyRels() {
			either, less := impl.RelEither(a, b), impl.RelLess(a, b)
			if a.Wide != b.Wide {
				if !sameRel(either, impl.Rel{}) || !sameRel(less, impl.Rel{}) {
					t.Fatalf("%v and %v are not as wide, but RelEither is %v and RelLess %v", a, b, either, less)
				}
				continue
			}
			if !sameRel(either, plainRel(a.Wide, slices.Concat(a.Rows, b.Rows))) || !impl.RelOk(either) {
				t.Fatalf("RelEither(%v, %v) = %v", a, b, either)
			}
			checkRows(t, "RelLess", less, a, func(row []int) bool { return !hasRow(b, row) })
			both := impl.RelLess(a, less)
			if !sameRel(both, impl.RelLess(b, impl.RelLess(b, a))) || !sameRel(either, impl.RelEither(b, a)) {
				t.Fatalf("the order of %v and %v matters", a, b)
			}
			if !sameRel(impl.RelEither(less, both), a) || !sameRel(impl.RelEither(less, b), either) || !sameRel(impl.RelLess(either, b), less) {
				t.Fatalf("%v and %v do not keep the rules of sets", a, b)
			}
		}
		none := rel(a.Wide)
		if !sameRel(impl.RelEither(a, a), a) || !sameRel(impl.RelLess(a, a), none) || !sameRel(impl.RelEither(none, a), a) || !sameRel(impl.RelLess(a, none), a) || !sameRel(impl.RelLess(none, a), none) {
			t.Fatalf("%v with itself, or with nothing", a)
		}
	}
}

// What relations of facts are is what the facts are.
func TestRelationsOfSetsOfFacts(t *testing.T) {
	all := impl.AllFacts(4, 2)
	next := numbersFrom(11)
	for range 200 {
		a, b := pick(all, next(1<<31)), pick(all, next(1<<31)<<5)
		of := func(list []impl.Fact) impl.Rel { return impl.RelOf(list, 4, 2) }
		if !sameRel(impl.RelEither(of(a), of(b)), of(impl.FactsEither(a, b))) || !sameRel(impl.RelLess(of(a), of(b)), of(impl.FactsLess(a, b))) {
			t.Fatalf("the relations of %v and %v", a, b)
		}
		body := []impl.Lit{yes(4, varW, varX), yes(3, varX, varY)}
		var other []impl.Fact
		for _, f := range b {
			other = append(other, fact(3, f.Args...))
		}
		joined, ok := impl.RelJoin(of(a), of(b), []int{1}, []int{0})
		var rows [][]int
		for _, has := range impl.Solutions(slices.Concat(a, other), body) {
			rows = append(rows, has[:3])
		}
		if got := impl.RelTake(joined, []int{0, 1, 3}); !ok || !sameRel(got, rel(3, rows...)) {
			t.Fatalf("the join of %v and %v = %v, want %v", a, b, got, rows)
		}
	}
}

func TestTooManyRowsBesideEachOther(t *testing.T) {
	cases := []struct {
		name string
		a, b impl.Rel
		ok   bool
	}{
		{"as many as may be", firstRows(3, 40), firstRows(2, 25), true},
		{"2000", firstRows(3, 100), firstRows(3, 20), true},
		{"2001", firstRows(3, 29), firstRows(3, 69), false},
		{"2000, a row without columns", firstRows(5, 2000), firstRows(0, 1), true},
		{"2000, a row", firstRows(5, 2000), firstRows(1, 1), true},
		{"2000, two rows", firstRows(5, 2000), firstRows(1, 2), false},
		{"two rows, 2000", firstRows(1, 2), firstRows(5, 2000), false},
		{"two rows, 1000", firstRows(1, 2), firstRows(5, 1000), true},
		{"two rows, 1001", firstRows(1, 2), firstRows(5, 1001), false},
		{"2000, no rows", firstRows(5, 2000), firstRows(1, 0), true},
		{"all rows of three columns twice", firstRows(3, 216), firstRows(3, 216), false},
		{"six columns", firstRows(6, 2000), firstRows(0, 1), true},
		{"six columns, no row", firstRows(6, 2000), firstRows(0, 0), true},
		{"seven columns", firstRows(6, 2), firstRows(1, 2), false},
		{"seven columns, in front", firstRows(1, 2), firstRows(6, 2), false},
		{"seven columns, no rows", rel(4), rel(3), false},
		{"twelve columns, no rows", rel(6), rel(6), false},
	}
	for _, c := range cases {
		got, ok := impl.RelTimes(c.a, c.b)
		joined, joinedOk := impl.RelJoin(c.a, c.b, nil, nil)
		if ok != c.ok || joinedOk != c.ok || !sameRel(got, joined) {
			t.Errorf("%s: RelTimes has %d rows, %v, and RelJoin %d, %v", c.name, len(got.Rows), ok, len(joined.Rows), joinedOk)
		}
		want := impl.Rel{}
		if c.ok {
			want = plainJoin(c.a, c.b, nil, nil)
		}
		if !sameRel(got, want) || !impl.RelOk(got) {
			t.Errorf("%s: RelTimes has %d rows of %d columns, want %d of %d", c.name, len(got.Rows), got.Wide, len(want.Rows), want.Wide)
		}
	}
}

func TestTooManyRowsThatFit(t *testing.T) {
	all := firstRows(3, 216)
	for _, c := range []struct {
		cols []int
		rows int // 0 if they are too many
	}{{nil, 0}, {[]int{0}, 0}, {[]int{2}, 0}, {[]int{0, 0, 0}, 0}, {[]int{0, 1}, 1296}, {[]int{2, 0}, 1296}, {[]int{1, 2, 0}, 216}} {
		got, ok := impl.RelJoin(all, all, c.cols, c.cols)
		want := impl.Rel{}
		if c.rows > 0 {
			want = plainJoin(all, all, c.cols, c.cols)
		}
		if ok != (c.rows > 0) || len(got.Rows) != c.rows || !sameRel(got, want) {
			t.Errorf("RelJoin by %v has %d rows, %v", c.cols, len(got.Rows), ok)
		}
		if got := impl.RelWithout(all, all, c.cols, c.cols); !sameRel(got, rel(3)) {
			t.Errorf("RelWithout by %v = %v", c.cols, got)
		}
	}
	fits := plainJoin(firstRows(4, 1000), rel(2, []int{0, 0}, []int{0, 1}, []int{0, 5}), []int{0}, []int{0})
	if got, ok := impl.RelJoin(firstRows(4, 1000), rel(2, []int{0, 0}, []int{0, 1}, []int{0, 5}), []int{0}, []int{0}); !ok || !sameRel(got, fits) {
		t.Errorf("RelJoin has %d rows, %v, want %d", len(got.Rows), ok, len(fits.Rows))
	}
	row := rel(1, []int{0})
	if got, ok := impl.RelJoin(firstRows(5, 1296+1), rel(1, []int{0}, []int{1}), []int{0}, []int{0}); !ok || len(got.Rows) != 1297 {
		t.Errorf("RelJoin has %d rows, %v", len(got.Rows), ok)
	}
	if got := impl.RelWithout(firstRows(5, 2000), row, []int{0}, []int{0}); len(got.Rows) != 2000-1296 || got.Rows[0][0] != 1 || got.Wide != 5 {
		t.Errorf("RelWithout has %d rows", len(got.Rows))
	}
}

// RelWithout has neither of both limits, for it has no rows beside each other.
func TestWithoutHasNoLimits(t *testing.T) {
	wide, rows := firstRows(6, 2000), firstRows(5, 2000)
	all := numbersTo(6)
	if got := impl.RelWithout(wide, wide, all, all); !sameRel(got, rel(6)) {
		t.Errorf("RelWithout of itself has %d rows", len(got.Rows))
	}
	if got := impl.RelWithout(wide, rows, []int{5, 4, 3, 2}, []int{4, 3, 2, 1}); !sameRel(got, rel(6)) {
		t.Errorf("RelWithout of a narrower one has %d rows", len(got.Rows))
	}
	if got := impl.RelWithout(wide, rows, nil, nil); !sameRel(got, rel(6)) {
		t.Errorf("RelWithout of any row has %d rows", len(got.Rows))
	}
	if got := impl.RelWithout(wide, rel(6), nil, nil); !sameRel(got, wide) {
		t.Errorf("RelWithout of no row has %d rows", len(got.Rows))
	}
	if got := impl.RelWithout(rows, wide, []int{0, 1, 2, 3, 4}, []int{1, 2, 3, 4, 5}); !sameRel(got, rel(5)) {
		t.Errorf("RelWithout of a wider one has %d rows", len(got.Rows))
	}
	if got := impl.RelWithout(rows, rel(1, []int{1}), []int{4}, []int{0}); len(got.Rows) != 2000-334 {
		t.Errorf("RelWithout has %d rows", len(got.Rows))
	}
}

func TestLimitsOfSetsOfRows(t *testing.T) {
	all := firstRows(5, 4001)
	part := func(from, to int) impl.Rel { return rel(5, all.Rows[from:to]...) }
	cases := []struct {
		name         string
		a, b         impl.Rel
		either, less impl.Rel
	}{
		{"2000 rows", part(0, 1000), part(1000, 2000), part(0, 2000), part(0, 1000)},
		{"2000 rows, the other way", part(1000, 2000), part(0, 1000), part(0, 2000), part(1000, 2000)},
		{"2001 rows", part(0, 1000), part(1000, 2001), impl.Rel{}, part(0, 1000)},
		{"2000 rows and one more", part(1, 2001), part(0, 1), impl.Rel{}, part(1, 2001)},
		{"one more and 2000 rows", part(2000, 2001), part(0, 2000), impl.Rel{}, part(2000, 2001)},
		{"2000 rows and themselves", part(7, 2007), part(7, 2007), part(7, 2007), part(0, 0)},
		{"2000 rows and one of them", part(7, 2007), part(2006, 2007), part(7, 2007), part(7, 2006)},
		{"2000 rows and none", part(7, 2007), part(0, 0), part(7, 2007), part(7, 2007)},
		{"2000 rows that overlap", part(0, 1500), part(500, 2000), part(0, 2000), part(0, 500)},
		{"2001 rows that overlap", part(0, 1500), part(500, 2001), impl.Rel{}, part(0, 500)},
		{"twice 2000 rows", part(0, 2000), part(2000, 4000), impl.Rel{}, part(0, 2000)},
		{"twice 2000 rows, all but one the same", part(0, 2000), part(1, 2001), impl.Rel{}, part(0, 1)},
	}
	for _, c := range cases {
		if got := impl.RelEither(c.a, c.b); !sameRel(got, c.either) {
			t.Errorf("%s: RelEither has %d rows", c.name, len(got.Rows))
		}
		if got := impl.RelLess(c.a, c.b); !sameRel(got, c.less) {
			t.Errorf("%s: RelLess has %d rows", c.name, len(got.Rows))
		}
	}
	full := firstRows(6, 2000)
	if got := impl.RelTake(full, []int{5, 4, 3, 2, 1, 0}); len(got.Rows) != 2000 || !impl.RelOk(got) {
		t.Errorf("RelTake has %d rows", len(got.Rows))
	}
	if got := impl.RelTake(full, []int{4, 5, 5}); len(got.Rows) != 36 || got.Wide != 3 {
		t.Errorf("RelTake of columns has %d rows", len(got.Rows))
	}
	if got := impl.RelPick(full, 0, 0); !sameRel(got, full) {
		t.Errorf("RelPick has %d rows", len(got.Rows))
	}
	if got := impl.RelSame(full, 0, 1); len(got.Rows) != 1296 {
		t.Errorf("RelSame has %d rows", len(got.Rows))
	}
}

// noRels returns what are no relations, but for what is told with two columns.
func noRels() map[string]impl.Rel {
	return map[string]impl.Rel{
		"out of order":          rel(2, []int{1, 0}, []int{0, 1}),
		"twice":                 rel(2, []int{0, 1}, []int{0, 1}),
		"a row too short":       rel(2, []int{0, 1}, []int{2}),
		"a row too long":        rel(2, []int{0, 1, 2}),
		"a row of nothing":      rel(2, nil, []int{0, 1}),
		"no constant":           rel(2, []int{0, 6}),
		"below 0":               rel(2, []int{-1, 0}, []int{0, 1}),
		"greatest number":       rel(2, []int{0, 1}, []int{3, math.MaxInt}),
		"too many rows":         firstRows(5, 2001),
		"too wide":              rel(7, []int{0, 0, 0, 0, 0, 0, 0}),
		"too wide, no rows":     rel(7),
		"wide below 0":          rel(-1),
		"wide below 0, a row":   rel(-1, []int{}),
		"least number wide":     rel(math.MinInt),
		"greatest number wide":  rel(math.MaxInt),
		"no columns, two rows":  rel(0, nil, nil),
		"no columns, constants": rel(0, []int{1}),
	}
}

func TestWhatIsNoRelation(t *testing.T) {
	ok := rel(2, []int{0, 1}, []int{1, 2})
	for name, r := range noRels() {
		if impl.RelOk(r) {
			t.Errorf("%s: RelOk", name)
		}
		for _, cols := range [][]int{nil, {0}, {1}, {0, 1}, {-1}, {5}} {
			checkNoRel(t, name, impl.RelTake(r, cols))
			for _, pair := range [][2]impl.Rel{{r, ok}, {ok, r}, {r, r}, {r, rel(0)}, {rel(0), r}} {
				checkNoJoin(t, name, pair[0], pair[1], cols, cols)
			}
		}
		for col := -1; col < 7; col++ {
			checkNoRel(t, name, impl.RelPick(r, col, 0))
			checkNoRel(t, name, impl.RelSame(r, col, 0))
			checkNoRel(t, name, impl.RelSame(r, 0, col))
		}
		for _, other := range []impl.Rel{ok, r, rel(r.Wide), rel(0, nil), {}} {
			checkNoRel(t, name, impl.RelEither(r, other))
			checkNoRel(t, name, impl.RelEither(other, r))
			checkNoRel(t, name, impl.RelLess(r, other))
			checkNoRel(t, name, impl.RelLess(other, r))
			if got, ok := impl.RelTimes(r, other); ok || !sameRel(got, impl.Rel{}) {
				t.Errorf("%s: RelTimes = %v, %v", name, got, ok)
			}
			if got, ok := impl.RelTimes(other, r); ok || !sameRel(got, impl.Rel{}) {
				t.Errorf("%s: RelTimes = %v, %v", name, got, ok)
			}
		}
	}
}

func checkNoRel(t *testing.T, name string, got impl.Rel) {
	t.Helper()
	if !sameRel(got, impl.Rel{}) {
		t.Errorf("%s: %v is something", name, got)
	}
}

func checkNoJoin(t *testing.T, name string, a, b impl.Rel, left, right []int) {
	t.Helper()
	if got, ok := impl.RelJoin(a, b, left, right); ok || !sameRel(got, impl.Rel{}) {
		t.Errorf("%s: RelJoin(.., %v, %v) = %v, %v", name, left, right, got, ok)
	}
	if got := impl.RelWithout(a, b, left, right); !sameRel(got, impl.Rel{}) {
		t.Errorf("%s: RelWithout(.., %v, %v) = %v", name, left, right, got)
	}
}

func TestColumnsThatAreNone(t *testing.T) {
	edges, row := rel(2, []int{0, 1}, []int{1, 2}), rel(0, []int{})
	none := []int{-1, 2, 3, 6, math.MinInt, math.MaxInt}
	for _, r := range []impl.Rel{edges, rel(2)} {
		for _, col := range none {
			checkNoRel(t, "a column that is none", impl.RelPick(r, col, 1))
			checkNoRel(t, "a column that is none", impl.RelSame(r, col, 1))
			checkNoRel(t, "a column that is none", impl.RelSame(r, 1, col))
			checkNoRel(t, "a column that is none", impl.RelSame(r, col, col))
			for _, cols := range [][]int{{col}, {0, col}, {col, 1}, {0, 1, 1, 0, 1, col}} {
				checkNoRel(t, "a column that is none", impl.RelTake(r, cols))
				good := make([]int, len(cols))
				checkNoJoin(t, "a column that is none on the left", r, edges, cols, good)
				checkNoJoin(t, "a column that is none on the right", edges, r, good, cols)
				checkNoJoin(t, "columns that are none", r, r, cols, cols)
			}
		}
		for _, cols := range [][2][]int{{nil, {0}}, {{1}, nil}, {{0, 1}, {0}}, {{0}, {0, 1}}, {{0, 0, 0, 0, 0, 0}, make([]int, 7)}} {
			checkNoJoin(t, "not as many columns", r, edges, cols[0], cols[1])
		}
		for _, many := range []int{7, 8, 100} {
			checkNoJoin(t, "too many pairs", r, edges, make([]int, many), make([]int, many))
		}
	}
	checkNoRel(t, "no columns", impl.RelPick(row, 0, 0))
	checkNoRel(t, "no columns", impl.RelSame(row, 0, 0))
	checkNoRel(t, "no columns", impl.RelTake(row, []int{0}))
	checkNoJoin(t, "no columns on the left", row, edges, []int{0}, []int{0})
	checkNoJoin(t, "no columns on the right", edges, row, []int{0}, []int{0})
	checkNoJoin(t, "a column of the other one alone", rel(1, []int{0}), edges, []int{1}, []int{1})
	checkNoJoin(t, "a column of both together", edges, edges, []int{0}, []int{2})
}

func TestRelationsNilIsEmpty(t *testing.T) {
	for _, cols := range [][]int{nil, {}} {
		for _, others := range [][]int{nil, {}} {
			for _, rows := range [][][]int{nil, {}, {nil}, {{}}} {
				for _, more := range [][][]int{nil, {}, {nil}, {{}}} {
					a, b := impl.Rel{Rows: rows}, impl.Rel{Rows: more}
					joined, ok := impl.RelJoin(a, b, cols, others)
					times, timesOk := impl.RelTimes(a, b)
					if !ok || !timesOk || joined.Wide != 0 || len(joined.Rows) != len(rows)*len(more) || !sameRel(joined, times) {
						t.Errorf("RelJoin of %d rows and %d = %v, %v", len(rows), len(more), joined, ok)
					}
					if got := impl.RelEither(a, b); got.Wide != 0 || len(got.Rows) != max(len(rows), len(more)) {
						t.Errorf("RelEither of %d rows and %d = %v", len(rows), len(more), got)
					}
					if got := impl.RelWithout(a, b, cols, others); len(got.Rows) != max(len(rows)-len(more), 0) || !sameRel(got, impl.RelLess(a, b)) {
						t.Errorf("RelWithout of %d rows and %d = %v", len(rows), len(more), got)
					}
					if got := impl.RelTake(a, cols); !sameRel(got, a) || !impl.RelOk(a) {
						t.Errorf("RelTake of %d rows = %v", len(rows), got)
					}
				}
			}
		}
		if got := impl.RelOf([]impl.Fact{{Pred: 3, Args: cols}}, 3, 0); !sameRel(got, rel(0, []int{})) {
			t.Errorf("RelOf = %v", got)
		}
	}
	if !sameRel(impl.RelOf([]impl.Fact{}, 1, 2), rel(2)) || !sameRel(impl.RelOf(nil, 1, 2), rel(2)) {
		t.Error("RelOf of no facts")
	}
	for _, r := range []impl.Rel{{Wide: 2}, {Wide: 2, Rows: [][]int{}}} {
		if !sameRel(impl.RelPick(r, 1, 0), rel(2)) || !sameRel(impl.RelSame(r, 1, 0), rel(2)) || !sameRel(impl.RelTake(r, []int{1}), rel(1)) {
			t.Error("of no rows there are some")
		}
	}
}

// relCalls returns every function of the chapter that returns a relation, of two relations with as many columns.
func relCalls() map[string]func(a, b impl.Rel, cols, others []int) impl.Rel {
	return map[string]func(a, b impl.Rel, cols, others []int) impl.Rel{
		"RelPick":                  func(a, b impl.Rel, cols, others []int) impl.Rel { return impl.RelPick(a, 0, 1) },
		"RelSame":                  func(a, b impl.Rel, cols, others []int) impl.Rel { return impl.RelSame(b, 0, 1) },
		"RelSame, all":             func(a, b impl.Rel, cols, others []int) impl.Rel { return impl.RelSame(a, 1, 1) },
		"RelTake":                  func(a, b impl.Rel, cols, others []int) impl.Rel { return impl.RelTake(a, cols) },
		"RelTake, all":             func(a, b impl.Rel, cols, others []int) impl.Rel { return impl.RelTake(a, []int{0, 1}) },
		"RelTimes":                 func(a, b impl.Rel, cols, others []int) impl.Rel { r, _ := impl.RelTimes(a, b); return r },
		"RelTimes, a row":          func(a, b impl.Rel, cols, others []int) impl.Rel { r, _ := impl.RelTimes(a, rel(0, nil)); return r },
		"RelTimes, a row in front": func(a, b impl.Rel, cols, others []int) impl.Rel { r, _ := impl.RelTimes(rel(0, nil), b); return r },
		"RelJoin":                  func(a, b impl.Rel, cols, others []int) impl.Rel { r, _ := impl.RelJoin(a, b, cols, others); return r },
		"RelEither":                func(a, b impl.Rel, cols, others []int) impl.Rel { return impl.RelEither(a, b) },
		"RelEither, none":          func(a, b impl.Rel, cols, others []int) impl.Rel { return impl.RelEither(a, rel(2)) },
		"RelEither, none in front": func(a, b impl.Rel, cols, others []int) impl.Rel { return impl.RelEither(rel(2), b) },
		"RelLess":                  func(a, b impl.Rel, cols, others []int) impl.Rel { return impl.RelLess(a, b) },
		"RelLess, none":            func(a, b impl.Rel, cols, others []int) impl.Rel { return impl.RelLess(a, rel(2)) },
		"RelWithout":               func(a, b impl.Rel, cols, others []int) impl.Rel { return impl.RelWithout(a, b, cols, others) },
		"RelWithout, none":         func(a, b impl.Rel, cols, others []int) impl.Rel { return impl.RelWithout(a, rel(1), nil, nil) },
	}
}

func TestRelationsArgumentsAreNotChanged(t *testing.T) {
	for name, call := range relCalls() {
		a, b := roomyRel(rel(2, []int{0, 3}, []int{1, 0}, []int{1, 2})), roomyRel(rel(2, []int{1, 1}, []int{2, 0}, []int{3, 3}))
		cols, others := roomyNumbers([]int{1}), roomyNumbers([]int{0})
		before := relNumbers(a, b, cols, others)
		first := call(a, b, cols, others)
		if !slices.Equal(relNumbers(a, b, cols, others), before) {
			t.Errorf("%s changes an argument", name)
		}
		if len(first.Rows) == 0 || first.Wide == 0 {
			t.Errorf("%s is nothing here", name)
		}
		second, want := call(a, b, cols, others), copyRel(first)
		checkNumbersApart(t, slices.Clone(second.Rows))
		scribbleRel(first)
		if !slices.Equal(relNumbers(a, b, cols, others), before) {
			t.Errorf("writing to %s changes an argument", name)
		}
		if !sameRel(second, want) || !sameRel(call(a, b, cols, others), want) {
			t.Errorf("writing to %s changes another result", name)
		}
		scribbleRel(a)
		scribbleRel(b)
		fill(cols[:cap(cols)])
		fill(others[:cap(others)])
		if !sameRel(second, want) {
			t.Errorf("writing to an argument changes %s", name)
		}
	}
}

func TestRelationsOfFactsShareNothing(t *testing.T) {
	list := roomy([]impl.Fact{fact(1, 4, 4), fact(2, 0, 1), fact(1, 3, 5), fact(1, 4, 4), fact(1, 2)})
	wantList := deepCopy(whole(list))
	for places := 1; places <= 2; places++ {
		first, second := impl.RelOf(list, 1, places), impl.RelOf(list, 1, places)
		want := copyRel(first)
		checkNumbersApart(t, slices.Clone(second.Rows))
		scribbleRel(first)
		if !sameFacts(whole(list), wantList) || !sameRel(second, want) || len(want.Rows) != places {
			t.Errorf("writing to RelOf with %d places changes the facts or another result", places)
		}
	}
	got := impl.RelOf(list, 1, 2)
	scribble(list)
	if !sameRel(got, rel(2, []int{3, 5}, []int{4, 4})) {
		t.Error("writing to facts changes RelOf")
	}
}

// firstRows returns the first rows of so many columns.
func firstRows(wide, many int) impl.Rel {
	r := rel(wide)
	for n := range many {
		row := digits(n, 6, wide)
		slices.Reverse(row)
		r.Rows = append(r.Rows, row)
	}
	return r
}

// manyRels returns all relations without columns, and of few rows of one and of two columns, and some of three.
func manyRels() []impl.Rel {
	rows := [][][]int{{{}}, {{0}, {2}, {5}}, {{0, 1}, {1, 0}, {1, 1}, {5, 1}}}
	var out []impl.Rel
	for wide, list := range rows {
		for n := range 1 << len(list) {
			r := rel(wide)
			for i, row := range list {
				if n>>i&1 == 1 {
					r.Rows = append(r.Rows, row)
				}
			}
			out = append(out, r)
		}
	}
	next := numbersFrom(9)
	for many := range 12 {
		var rows [][]int
		for range many {
			rows = append(rows, []int{next(3), next(2) * 5, next(3)})
		}
		out = append(out, plainRel(3, rows))
	}
	return out
}

// pairLists returns all lists of up to two pairs of columns.
func pairLists(left, right int) [][2][]int {
	lists := [][2][]int{{}}
	for n := range left * right {
		lists = append(lists, [2][]int{{n / right}, {n % right}})
		for m := range left * right {
			lists = append(lists, [2][]int{{n / right, m / right}, {n % right, m % right}})
		}
	}
	return lists
}

// plainRelOk tries all constants, and holds all rows against each other.
func plainRelOk(r impl.Rel) bool {
	if r.Wide < 0 || r.Wide > 6 || len(r.Rows) > 2000 {
		return false
	}
	for i, row := range r.Rows {
		if len(row) != r.Wide || slices.ContainsFunc(row, func(c int) bool { return c < 0 || c > 5 }) {
			return false
		}
		for _, other := range r.Rows[i+1:] {
			if len(other) != r.Wide || !rowAhead(row, other) {
				return false
			}
		}
	}
	return true
}

// rowAhead tells the order of two rows of the same width.
func rowAhead(a, b []int) bool {
	for i := range a {
		if a[i] != b[i] {
			return a[i] < b[i]
		}
	}
	return false
}

// plainRel puts rows, one by one, where they belong.
func plainRel(wide int, rows [][]int) impl.Rel {
	out := rel(wide)
	for _, row := range rows {
		if hasRow(out, row) {
			continue
		}
		at := 0
		for at < len(out.Rows) && rowAhead(out.Rows[at], row) {
			at++
		}
		out.Rows = slices.Insert(out.Rows, at, row)
	}
	return out
}

func hasRow(r impl.Rel, row []int) bool {
	return slices.ContainsFunc(r.Rows, func(other []int) bool { return slices.Equal(other, row) })
}

func plainColumns(row []int, cols []int) []int {
	var out []int
	for _, col := range cols {
		out = append(out, row[col])
	}
	return out
}

// plainJoin tries all rows beside each other.
func plainJoin(a, b impl.Rel, left, right []int) impl.Rel {
	var rows [][]int
	for _, row := range a.Rows {
		for _, other := range b.Rows {
			if slices.Equal(plainColumns(row, left), plainColumns(other, right)) {
				rows = append(rows, slices.Concat(row, other))
			}
		}
	}
	return plainRel(a.Wide+b.Wide, rows)
}

func sameRel(a, b impl.Rel) bool {
	return a.Wide == b.Wide && sameLists(a.Rows, b.Rows)
}

func copyRel(r impl.Rel) impl.Rel {
	out := rel(r.Wide)
	for _, row := range r.Rows {
		out.Rows = append(out.Rows, slices.Clone(row))
	}
	return out
}

// roomyRel returns a copy of a relation with unused capacity behind the list of rows and behind each row.
func roomyRel(r impl.Rel) impl.Rel {
	rows := make([][]int, 0, len(r.Rows)+3)
	for _, row := range r.Rows {
		rows = append(rows, roomyNumbers(row))
	}
	return rel(r.Wide, rows...)
}

// relNumbers returns all numbers of relations and of lists of columns, those of unused capacity among them.
func relNumbers(a, b impl.Rel, cols, others []int) []int {
	out := slices.Concat(cols[:cap(cols)], others[:cap(others)])
	for _, r := range []impl.Rel{a, b} {
		out = append(out, r.Wide, len(r.Rows))
		for _, row := range r.Rows[:cap(r.Rows)] {
			out = append(append(out, len(row)), row[:cap(row)]...)
		}
	}
	return out
}

// scribbleRel overwrites the rows of a relation, and all unused capacity.
func scribbleRel(r impl.Rel) {
	rows := r.Rows[:cap(r.Rows)]
	for i := range rows {
		fill(rows[i][:cap(rows[i])])
		rows[i] = []int{-77}
	}
}
