package tests

import (
	"math"
	"slices"
	"testing"

	"loop.example/wholerules/impl"
)

// nothing is what variables have at first.
func nothing() []int {
	return []int{-1, -1, -1, -1}
}

// noBinds returns lists that do not tell what variables have.
func noBinds() map[string][]int {
	return map[string][]int{
		"nil":                nil,
		"empty":              {},
		"too short":          {1, 2, 3},
		"too long":           {1, 2, 3, 4, 5},
		"too long, nothing":  {-1, -1, -1, -1, -1},
		"first is too small": {-2, 2, 3, 4},
		"first is too great": {6, 2, 3, 4},
		"last is too small":  {1, 2, 3, -2},
		"last is too great":  {1, 2, 3, 6},
		"least number":       {1, math.MinInt, 3, 4},
		"greatest number":    {1, 2, math.MaxInt, 4},
	}
}

// noTerms returns numbers that are no terms.
func noTerms() []int {
	return []int{6, -5, 7, -6, math.MaxInt, math.MinInt}
}

// noConstants returns numbers that are no constants.
func noConstants() []int {
	return []int{6, -1, -4, -5, math.MaxInt, math.MinInt}
}

func TestBound(t *testing.T) {
	cases := []struct {
		name string
		args []int
		bind []int
		want []int
	}{
		{"no terms", nil, []int{1, 2, 3, 4}, nil},
		{"constants", []int{0, 5, 3}, nothing(), []int{0, 5, 3}},
		{"each variable", []int{varW, varX, varY, varZ}, []int{0, 5, 2, 3}, []int{0, 5, 2, 3}},
		{"variables in another order", []int{varZ, varW, varY}, []int{0, 5, 2, 3}, []int{3, 0, 2}},
		{"a variable twice", []int{varX, varX}, []int{-1, 4, -1, -1}, []int{4, 4}},
		{"some have none", []int{varW, varX, 2, varZ}, []int{-1, 0, 5, -1}, []int{-1, 0, 2, -1}},
		{"none has something", []int{varW, varZ}, nothing(), []int{-1, -1}},
		{"more terms than places", []int{1, varX, 2, varX, 3, varX}, []int{-1, 0, -1, -1}, []int{1, 0, 2, 0, 3, 0}},
	}
	for _, c := range cases {
		if got := impl.Bound(c.args, c.bind); !slices.Equal(got, c.want) {
			t.Errorf("%s: Bound(%v, %v) = %v", c.name, c.args, c.bind, got)
		}
	}
	for name, bind := range noBinds() {
		for _, args := range [][]int{nil, {1}, {varW, varX}} {
			if got := impl.Bound(args, bind); len(got) != 0 {
				t.Errorf("%s: Bound(%v, %v) = %v", name, args, bind, got)
			}
		}
	}
	for _, n := range noTerms() {
		for _, args := range [][]int{{n}, {n, 1}, {varW, n}, {1, n, varX}} {
			if got := impl.Bound(args, []int{1, 2, 3, 4}); len(got) != 0 {
				t.Errorf("Bound(%v, ..) = %v", args, got)
			}
		}
	}
}

func TestHeadOf(t *testing.T) {
	cases := []struct {
		name string
		atom impl.Atom
		bind []int
		want impl.Fact
		ok   bool
	}{
		{"no terms", atom(0), nothing(), fact(0), true},
		{"constants", atom(2, 5, 0), nothing(), fact(2, 5, 0), true},
		{"variables", atom(2, varZ, varW), []int{0, -1, -1, 5}, fact(2, 5, 0), true},
		{"a variable twice", atom(2, varY, varY), []int{-1, -1, 3, -1}, fact(2, 3, 3), true},
		{"both", atom(3, varW, 4), []int{2, -1, -1, -1}, fact(3, 2, 4), true},
		{"first has none", atom(2, varX, varW), []int{0, -1, 2, 3}, impl.Fact{}, false},
		{"second has none", atom(2, 1, varY), []int{0, 1, -1, 3}, impl.Fact{}, false},
		{"others have none", atom(1, varX), []int{-1, 0, -1, -1}, fact(1, 0), true},
		{"a predicate below 0", atom(-9, varX), []int{-1, 0, -1, -1}, fact(-9, 0), true},
		{"a predicate past the most", atom(99), nothing(), fact(99), true},
		{"more terms than places", atom(0, 1, varX, 2), []int{-1, 5, -1, -1}, fact(0, 1, 5, 2), true},
	}
	for _, c := range cases {
		if got, ok := impl.HeadOf(c.atom, c.bind); ok != c.ok || !sameFact(got, c.want) {
			t.Errorf("%s: HeadOf(%v, %v) = %v, %v", c.name, c.atom, c.bind, got, ok)
		}
	}
	for name, bind := range noBinds() {
		for _, a := range []impl.Atom{atom(3), atom(1, 2), atom(2, varW, varX)} {
			checkNoHead(t, name, a, bind)
		}
	}
	for _, n := range noTerms() {
		for _, a := range []impl.Atom{atom(1, n), atom(2, n, 1), atom(2, varW, n)} {
			checkNoHead(t, "no term", a, []int{1, 2, 3, 4})
		}
	}
}

func checkNoHead(t *testing.T, name string, a impl.Atom, bind []int) {
	t.Helper()
	if got, ok := impl.HeadOf(a, bind); ok || !sameFact(got, impl.Fact{}) {
		t.Errorf("%s: HeadOf(%v, %v) = %v, %v", name, a, bind, got, ok)
	}
}

func TestMatch(t *testing.T) {
	cases := []struct {
		name string
		atom impl.Atom
		fact impl.Fact
		bind []int
		want []int
	}{
		{"no terms", atom(3), fact(3), nothing(), nothing()},
		{"no terms, something there", atom(3), fact(3), []int{0, -1, 5, 2}, []int{0, -1, 5, 2}},
		{"constants that are the same", atom(2, 0, 5), fact(2, 0, 5), nothing(), nothing()},
		{"first constant differs", atom(2, 0, 5), fact(2, 1, 5), nothing(), nil},
		{"last constant differs", atom(2, 0, 5), fact(2, 0, 4), nothing(), nil},
		{"a variable gets one", atom(1, varX), fact(1, 0), nothing(), []int{-1, 0, -1, -1}},
		{"a variable has it", atom(1, varX), fact(1, 4), []int{1, 4, -1, 2}, []int{1, 4, -1, 2}},
		{"a variable has another one", atom(1, varX), fact(1, 0), []int{0, 4, 0, 0}, nil},
		{"two variables", atom(2, varZ, varW), fact(2, 3, 5), nothing(), []int{5, -1, -1, 3}},
		{"two variables, the same constant", atom(2, varZ, varW), fact(2, 3, 3), nothing(), []int{3, -1, -1, 3}},
		{"one has it, the other one gets it", atom(2, varY, varX), fact(2, 0, 5), []int{2, -1, 0, -1}, []int{2, 5, 0, -1}},
		{"first has another one", atom(2, varY, varX), fact(2, 0, 5), []int{2, -1, 1, -1}, nil},
		{"second has another one", atom(2, varX, varY), fact(2, 0, 5), []int{2, -1, 1, -1}, nil},
		{"a variable twice", atom(2, varY, varY), fact(2, 4, 4), nothing(), []int{-1, -1, 4, -1}},
		{"a variable twice, two constants", atom(2, varY, varY), fact(2, 4, 5), nothing(), nil},
		{"a variable twice, the least constant and another", atom(2, varY, varY), fact(2, 0, 5), nothing(), nil},
		{"a variable twice, it has it", atom(2, varW, varW), fact(2, 1, 1), []int{1, -1, -1, -1}, []int{1, -1, -1, -1}},
		{"a variable twice, it has another one", atom(2, varW, varW), fact(2, 1, 1), []int{2, -1, -1, -1}, nil},
		{"a variable and a constant", atom(2, varW, 3), fact(2, 3, 3), nothing(), []int{3, -1, -1, -1}},
		{"a variable and another constant", atom(2, varW, 3), fact(2, 3, 2), nothing(), nil},
		{"another predicate", atom(2, varW, varX), fact(3, 1, 1), nothing(), nil},
		{"another predicate without places", atom(0), fact(1), nothing(), nil},
		{"too few terms", atom(2, varW), fact(2, 1, 1), nothing(), nil},
		{"too many terms", atom(2, varW, varX), fact(2, 1), nothing(), nil},
		{"no terms, a constant", atom(2), fact(2, 1), nothing(), nil},
		{"a term, no constants", atom(2, varW), fact(2), nothing(), nil},
		{"predicates below 0", atom(-7, varW), fact(-7, 5), nothing(), []int{5, -1, -1, -1}},
		{"more terms than places", atom(0, varW, 2, varW, varX), fact(0, 5, 2, 5, 0), nothing(), []int{5, 0, -1, -1}},
	}
	for _, c := range cases {
		got, ok := impl.Match(c.atom, c.fact, c.bind)
		if ok != (c.want != nil) || !slices.Equal(got, c.want) {
			t.Errorf("%s: Match(%v, %v, %v) = %v, %v", c.name, c.atom, c.fact, c.bind, got, ok)
		}
	}
}

func TestMatchOfWhatIsNone(t *testing.T) {
	for name, bind := range noBinds() {
		checkNoMatch(t, name, atom(0), fact(0), bind)
		checkNoMatch(t, name, atom(1, 4), fact(1, 4), bind)
		checkNoMatch(t, name, atom(2, varZ, varZ), fact(2, 4, 4), bind)
	}
	for _, n := range noTerms() {
		checkNoMatch(t, "no term, the same", atom(1, n), fact(1, n), nothing())
		checkNoMatch(t, "no term", atom(1, n), fact(1, 4), nothing())
		checkNoMatch(t, "second is no term", atom(2, varW, n), fact(2, 4, 4), nothing())
	}
	for _, n := range noConstants() {
		checkNoMatch(t, "no constant", atom(1, varX), fact(1, n), nothing())
		checkNoMatch(t, "second is no constant", atom(2, varX, varY), fact(2, 1, n), nothing())
		checkNoMatch(t, "no constant, something there", atom(1, varX), fact(1, n), []int{1, 2, 3, 4})
		checkNoMatch(t, "no constant, the same number", atom(1, n), fact(1, n), nothing())
	}
}

func checkNoMatch(t *testing.T, name string, a impl.Atom, f impl.Fact, bind []int) {
	t.Helper()
	if got, ok := impl.Match(a, f, bind); ok || len(got) != 0 {
		t.Errorf("%s: Match(%v, %v, %v) = %v, %v", name, a, f, bind, got, ok)
	}
}

// A match is just the one list that keeps what was there, makes the atom the fact, and gives nothing to other variables.
func TestMatchIsTheOneThatFits(t *testing.T) {
	atoms := []impl.Atom{atom(2, varW, varX), atom(2, varZ, varZ), atom(2, varY, 3), atom(2, 3, varX), atom(2, 0, 4), atom(1, varX), atom(2, varX, varW)}
	facts := []impl.Fact{fact(2, 3, 3), fact(2, 0, 4), fact(2, 3, 0), fact(1, 0), fact(2, 5, 3)}
	for _, a := range atoms {
		for _, f := range facts {
			for _, bind := range everyBind() {
				got, ok := impl.Match(a, f, bind)
				want := plainMatch(a, f, bind)
				if ok != (want != nil) || !slices.Equal(got, want) {
					t.Fatalf("Match(%v, %v, %v) = %v, %v, want %v", a, f, bind, got, ok, want)
				}
				if head, is := impl.HeadOf(a, got); ok && (!is || !sameFact(head, f)) {
					t.Fatalf("Match(%v, %v, %v) = %v, but HeadOf is %v, %v", a, f, bind, got, head, is)
				}
			}
		}
	}
}

func TestHolds(t *testing.T) {
	list := []impl.Fact{fact(2, 3, 1), fact(0), fact(1, 4), fact(2, 3, 1), fact(-3, 2), fact(1, 9), fact(4, 1, 2, 3), fact(1)}
	cases := []struct {
		name string
		lit  impl.Lit
		bind []int
		want bool
	}{
		{"it is there", yes(2, varW, varX), []int{3, 1, -1, -1}, true},
		{"it is there, constants", yes(1, 4), nothing(), true},
		{"it is there, no terms", yes(0), nothing(), true},
		{"it is there with fewer Args", yes(1), nothing(), true},
		{"it is not there", yes(2, varW, varX), []int{1, 3, -1, -1}, false},
		{"it is not there, no terms", yes(2), nothing(), false},
		{"a variable has none", yes(2, varW, varX), []int{3, -1, 1, -1}, false},
		{"a variable has none, one place", yes(1, varZ), []int{4, 4, 4, -1}, false},
		{"a predicate below 0", yes(-3, varW), []int{2, -1, -1, -1}, true},
		{"more terms than places", yes(4, 1, varW, 3), []int{2, -1, -1, -1}, true},
		{"denied, there", no(2, varW, varX), []int{3, 1, -1, -1}, false},
		{"denied, there, no terms", no(0), nothing(), false},
		{"denied, not there", no(2, varW, varX), []int{1, 3, -1, -1}, true},
		{"denied, not there, constants", no(1, 5), nothing(), true},
		{"denied, no such predicate", no(7, varX), []int{-1, 0, -1, -1}, true},
		{"denied, a variable has none", no(2, varW, varX), []int{1, -1, 3, -1}, false},
		{"denied, other variables have none", no(1, varY), []int{-1, -1, 3, -1}, true},
		{"same constants", same(2, 2), nothing(), true},
		{"other constants", same(2, 3), nothing(), false},
		{"same of variables", same(varW, varZ), []int{0, -1, -1, 0}, true},
		{"not the same of variables", same(varW, varZ), []int{0, -1, -1, 5}, false},
		{"same of a variable and a constant", same(varX, 5), []int{-1, 5, -1, -1}, true},
		{"same variable", same(varX, varX), []int{-1, 5, -1, -1}, true},
		{"same variable that has none", same(varX, varX), nothing(), false},
		{"same, both have none", same(varX, varY), nothing(), false},
		{"same, one has none", same(varX, 0), nothing(), false},
		{"less", less(varW, varX), []int{0, 1, -1, -1}, true},
		{"less of constants", less(4, 5), nothing(), true},
		{"not less", less(varW, varX), []int{1, 0, -1, -1}, false},
		{"less, the same", less(varW, 3), []int{3, -1, -1, -1}, false},
		{"less, the first has none", less(varX, 3), []int{0, -1, 0, 0}, false},
		{"less, the second has none", less(3, varX), []int{5, -1, 5, 5}, false},
		{"same of one term", same(1), nothing(), false},
		{"same of no terms", same(), nothing(), false},
		{"same of three terms", same(1, 1, 1), nothing(), false},
		{"less of one term", less(1), nothing(), false},
		{"less of three terms", less(1, 2, 3), nothing(), false},
	}
	for _, c := range cases {
		if got := impl.Holds(list, c.lit, c.bind); got != c.want {
			t.Errorf("%s: Holds(.., %v, %v) = %v", c.name, c.lit, c.bind, got)
		}
	}
	if impl.Holds(nil, yes(0), nothing()) || !impl.Holds(nil, no(0), nothing()) || !impl.Holds(nil, same(1, 1), nothing()) {
		t.Error("Holds in no facts")
	}
}

func TestHoldsOfWhatIsNone(t *testing.T) {
	list := []impl.Fact{fact(0, 1, 1), fact(1, 6), fact(1, -5), fact(1, -1), fact(0, 1)}
	lits := []impl.Lit{yes(0, 1, 1), no(0, 2, 2), no(3), same(1, 1), less(1, 2), yes(0, varW, varX), no(0, varW, varX), same(varW, varW), less(varW, varX)}
	for name, bind := range noBinds() {
		for _, l := range lits {
			if impl.Holds(list, l, bind) {
				t.Errorf("%s: Holds(.., %v, %v)", name, l, bind)
			}
		}
	}
	for _, n := range noTerms() {
		for _, l := range []impl.Lit{yes(1, n), no(1, n), no(2, 1, n), same(n, n), less(n, 5), less(0, n), same(1, n)} {
			if impl.Holds(list, l, []int{1, 2, 3, 4}) {
				t.Errorf("Holds(.., %v, ..)", l)
			}
		}
	}
	for _, kind := range []int{-1, 4, math.MinInt, math.MaxInt} {
		for _, a := range []impl.Atom{atom(0, 1, 1), atom(0, 1, 2), atom(5)} {
			if impl.Holds(list, impl.Lit{Kind: kind, Atom: a}, nothing()) {
				t.Errorf("Holds takes the kind %d of %v", kind, a)
			}
		}
	}
}

func TestBodySafe(t *testing.T) {
	full := []impl.Lit{yes(2, varW, varX), no(2, varX, varW), same(varW, varX), less(varX, 5)}
	cases := []struct {
		name string
		body []impl.Lit
		want bool
	}{
		{"nil", nil, true},
		{"empty", []impl.Lit{}, true},
		{"each kind", full, true},
		{"one too many", append(slices.Clone(full), yes(0)), false},
		{"five without terms", []impl.Lit{yes(0), yes(0), yes(0), yes(0), yes(0)}, false},
		{"constants alone", []impl.Lit{no(2, 0, 5), same(1, 1), less(4, 3), yes(1, 0)}, true},
		{"without atoms", []impl.Lit{same(1, 1), less(4, 3)}, true},
		{"denied alone", []impl.Lit{no(1, varW)}, false},
		{"denied ahead", []impl.Lit{no(1, varW), yes(1, varW)}, true},
		{"denied, one of two", []impl.Lit{no(2, varW, varX), yes(1, varW)}, false},
		{"same alone", []impl.Lit{same(varW, 1)}, false},
		{"same of one that is there", []impl.Lit{yes(1, varX), same(varW, varX)}, false},
		{"less of one that is there", []impl.Lit{yes(1, varX), less(varX, varZ)}, false},
		{"in several atoms", []impl.Lit{yes(1, varX), less(varX, varZ), yes(1, varZ)}, true},
		{"all four variables", []impl.Lit{yes(2, varX, varY), less(varX, varZ), yes(2, varW, varZ), same(varW, varY)}, true},
		{"a kind past the last", []impl.Lit{{Kind: 4, Atom: atom(1, 1)}}, false},
		{"a kind past the last gives nothing", []impl.Lit{yes(1, varW), {Kind: 4, Atom: atom(1, varW)}}, false},
		{"a kind below 0", []impl.Lit{{Kind: -1, Atom: atom(0)}, yes(0)}, false},
		{"greatest kind", []impl.Lit{yes(0), {Kind: math.MaxInt, Atom: atom(0)}}, false},
		{"least kind", []impl.Lit{yes(0), {Kind: math.MinInt, Atom: atom(0)}}, false},
		{"whatever the predicates are", []impl.Lit{yes(-8, varY), no(99, varY, varY, varY)}, true},
		{"whatever is compared", []impl.Lit{yes(0), same(1), {Kind: impl.LitLess, Atom: atom(7, 1, 2)}}, true},
	}
	for _, c := range cases {
		if got := impl.BodySafe(c.body); got != c.want {
			t.Errorf("%s: BodySafe(%v) = %v", c.name, c.body, got)
		}
	}
	for _, n := range noTerms() {
		for _, l := range []impl.Lit{yes(1, n), yes(2, varW, n), no(1, n), same(n, varW), less(varW, n)} {
			if impl.BodySafe([]impl.Lit{yes(1, varW), l}) || impl.BodySafe([]impl.Lit{l, yes(1, varW)}) {
				t.Errorf("BodySafe takes %v", l)
			}
		}
	}
}

func TestSolutions(t *testing.T) {
	edges := []impl.Fact{fact(0, 1, 2), fact(0, 2, 3)}
	mixed := []impl.Fact{fact(2, 3, 1), fact(1, 4), fact(0), fact(2, 3, 1), fact(1, 0), fact(2, 0, 0), fact(9, 1), fact(-1, 2), fact(1, 4, 4), fact(1)}
	cases := []struct {
		name string
		list []impl.Fact
		body []impl.Lit
		want [][]int
	}{
		{"the document's example", edges, []impl.Lit{yes(0, varW, varX), yes(0, varX, varY)}, [][]int{{1, 2, 3, -1}}},
		{"no body, no facts", nil, nil, [][]int{{-1, -1, -1, -1}}},
		{"no body", edges, nil, [][]int{{-1, -1, -1, -1}}},
		{"empty body", edges, []impl.Lit{}, [][]int{{-1, -1, -1, -1}}},
		{"no atoms, it holds", edges, []impl.Lit{same(3, 3), less(0, 5)}, [][]int{{-1, -1, -1, -1}}},
		{"no atoms, it does not hold", edges, []impl.Lit{same(3, 3), less(5, 0)}, nil},
		{"denied alone, not there", edges, []impl.Lit{no(0, 2, 1)}, [][]int{{-1, -1, -1, -1}}},
		{"denied alone, there", edges, []impl.Lit{no(0, 2, 3)}, nil},
		{"denied alone, no facts", nil, []impl.Lit{no(0)}, [][]int{{-1, -1, -1, -1}}},
		{"no variables, there", mixed, []impl.Lit{yes(2, 0, 0), yes(0)}, [][]int{{-1, -1, -1, -1}}},
		{"no variables, not there", mixed, []impl.Lit{yes(2, 0, 1)}, nil},
		{"an atom, no facts", nil, []impl.Lit{yes(1, varW)}, nil},
		{"out of order, and twice", mixed, []impl.Lit{yes(2, varX, varZ)}, [][]int{{-1, 0, -1, 0}, {-1, 3, -1, 1}}},
		{"other places of the predicate", mixed, []impl.Lit{yes(1, varY)}, [][]int{{-1, -1, 0, -1}, {-1, -1, 4, -1}}},
		{"a variable twice", mixed, []impl.Lit{yes(2, varW, varW)}, [][]int{{0, -1, -1, -1}}},
		{"a variable twice, none", edges, []impl.Lit{yes(0, varW, varW)}, nil},
		{"a constant first", edges, []impl.Lit{yes(0, 2, varW)}, [][]int{{3, -1, -1, -1}}},
		{"a constant last", edges, []impl.Lit{yes(0, varW, 2)}, [][]int{{1, -1, -1, -1}}},
		{"an atom twice", edges, []impl.Lit{yes(0, varW, varX), yes(0, varW, varX)}, [][]int{{1, 2, -1, -1}, {2, 3, -1, -1}}},
		{"atoms that share nothing", edges, []impl.Lit{yes(0, varZ, varY), yes(0, varX, varW)}, [][]int{{2, 1, 2, 1}, {2, 1, 3, 2}, {3, 2, 2, 1}, {3, 2, 3, 2}}},
		{"ordered by the first variable, not by the first atom", edges, []impl.Lit{yes(0, varX, varY), yes(0, varW, varX)}, [][]int{{1, 2, 3, -1}}},
		{"denied ahead", edges, []impl.Lit{no(0, varX, 3), yes(0, varW, varX)}, [][]int{{2, 3, -1, -1}}},
		{"same ahead", edges, []impl.Lit{same(varX, 3), yes(0, varW, varX)}, [][]int{{2, 3, -1, -1}}},
		{"less ahead", edges, []impl.Lit{less(varX, 3), yes(0, varW, varX)}, [][]int{{1, 2, -1, -1}}},
		{"less between atoms", edges, []impl.Lit{yes(0, varW, varX), less(varY, varW), yes(0, varY, varZ)}, [][]int{{2, 3, 1, 2}}},
		{"predicates below 0, and past the most", mixed, []impl.Lit{yes(-1, varX), yes(9, varW), no(77, varX)}, [][]int{{1, 2, -1, -1}}},
		{"same of one term never holds", edges, []impl.Lit{same(1)}, nil},
		{"less of three terms never holds", edges, []impl.Lit{yes(0, varW, varX), less(varW, varX, 5)}, nil},
	}
	for _, c := range cases {
		if got := impl.Solutions(c.list, c.body); !sameLists(got, c.want) {
			t.Errorf("%s: Solutions(%v, %v) = %v", c.name, c.list, c.body, got)
		}
	}
}

func TestSolutionsOfWhatIsNone(t *testing.T) {
	list := impl.AllFacts(1, 1)
	unsafe := [][]impl.Lit{
		{no(1, varW)}, {same(varW, 1)}, {yes(1, varX), less(varX, varY)}, {yes(0), yes(0), yes(0), yes(0), yes(0)},
		{yes(1, varW), {Kind: 4, Atom: atom(1, varW)}}, {{Kind: -1, Atom: atom(1, 1)}}, {yes(1, 6)}, {yes(1, -5)}, {no(1, 6)}, {same(6, 6)}, {less(-5, 3)},
	}
	for _, body := range unsafe {
		if got := impl.Solutions(list, body); len(got) != 0 {
			t.Errorf("Solutions(.., %v) = %v", body, got)
		}
	}
	for _, n := range noConstants() {
		for _, f := range []impl.Fact{fact(1, n), fact(7, n), fact(1, 2, n), fact(-5, n, 0)} {
			for _, body := range [][]impl.Lit{nil, {yes(1, varW)}, {same(1, 1)}, {no(2, 1, 1)}} {
				lists := [][]impl.Fact{{f}, append([]impl.Fact{f}, list...), append(slices.Clone(list), f)}
				for _, l := range lists {
					if got := impl.Solutions(l, body); len(got) != 0 {
						t.Errorf("Solutions(%v, %v) = %v", l, body, got)
					}
				}
			}
		}
	}
}

// The third promise: what is told of a body is just what makes all of its literals hold, and what its variables have alone.
func TestSolutionsAreWhatMakesABodyHold(t *testing.T) {
	bodies := [][]impl.Lit{
		nil,
		{yes(2, varW, varX), yes(2, varX, varY), yes(2, varY, varZ), no(2, varW, varZ)},
		{yes(2, varZ, varX), no(1, varZ), less(varX, varZ), yes(1, varX)},
		{yes(2, varY, varY), yes(1, varW), same(varW, varY)},
		{yes(1, varX), yes(1, varZ), less(varZ, varX), no(2, varX, varZ)},
		{yes(0), no(2, 3, 3), less(2, 4)},
	}
	for _, list := range solvedLists() {
		for _, body := range bodies {
			var want [][]int
			for _, bind := range everyBind() {
				if hasJust(bind, body) && allHold(list, body, bind) {
					want = append(want, bind)
				}
			}
			if got := impl.Solutions(list, body); !sameLists(got, want) {
				t.Fatalf("Solutions(%v, %v) = %v, want %v", list, body, got, want)
			}
		}
	}
}

// Many bodies and facts are held against a model that tries all constants.
func TestSolutionsAgainstPlainOnes(t *testing.T) {
	lists := solvedLists()
	for _, body := range manyBodies() {
		if got, want := impl.BodySafe(body), plainBodySafe(body); got != want {
			t.Fatalf("BodySafe(%v) = %v", body, got)
		}
		for _, list := range lists {
			if got, want := impl.Solutions(list, body), plainSolutions(list, body); !sameLists(got, want) {
				t.Fatalf("Solutions(%v, %v) = %v, want %v", list, body, got, want)
			}
			for _, bind := range [][]int{nothing(), {0, 1, 2, 3}, {3, -1, 3, -1}, {-1, 0, 5, 1}, {4, 4, 4, 4}} {
				for _, l := range body {
					if got, want := impl.Holds(list, l, bind), plainHolds(list, l, bind); got != want {
						t.Fatalf("Holds(%v, %v, %v) = %v", list, l, bind, got)
					}
				}
			}
		}
	}
}

func TestSolutionsOfAllFacts(t *testing.T) {
	list := slices.Concat(impl.AllFacts(2, 2), impl.AllFacts(1, 1))
	got := impl.Solutions(list, []impl.Lit{yes(2, varZ, varX), yes(2, varY, varW)})
	if len(got) != 6*6*6*6 {
		t.Errorf("%d solutions of four variables", len(got))
	}
	for i := 1; i < len(got); i++ {
		if slices.Compare(got[i-1], got[i]) >= 0 {
			t.Fatalf("%v stands ahead of %v", got[i-1], got[i])
		}
	}
	if got := impl.Solutions(list, []impl.Lit{yes(1, varX), yes(1, varW), less(varX, varW)}); len(got) != 15 {
		t.Errorf("%d solutions of two that differ", len(got))
	}
	wide := []impl.Fact{fact(0, 1, 2, 3, 4, 1), fact(0, 1, 2, 3, 4, 2), fact(0, 5, 0, 0, 5, 5)}
	want := [][]int{{1, 2, 3, 4}, {5, 0, 0, 5}}
	if got := impl.Solutions(wide, []impl.Lit{yes(0, varW, varX, varY, varZ, varW)}); !sameLists(got, want) {
		t.Errorf("Solutions of five terms = %v", got)
	}
}

func TestMatchesNilIsEmpty(t *testing.T) {
	noArgs, empty := impl.Atom{Pred: 1}, impl.Atom{Pred: 1, Args: []int{}}
	for _, a := range []impl.Atom{noArgs, empty} {
		for _, f := range []impl.Fact{{Pred: 1}, {Pred: 1, Args: []int{}}} {
			if got, ok := impl.Match(a, f, []int{1, -1, 2, -1}); !ok || !slices.Equal(got, []int{1, -1, 2, -1}) {
				t.Errorf("Match = %v, %v", got, ok)
			}
			list := []impl.Fact{f}
			if !impl.Holds(list, impl.Lit{Atom: a}, nothing()) || impl.Holds(list, impl.Lit{Kind: impl.LitNo, Atom: a}, nothing()) {
				t.Error("nil and empty Args differ for Holds")
			}
			if got := impl.Solutions(list, []impl.Lit{{Atom: a}}); !sameLists(got, [][]int{nothing()}) {
				t.Errorf("Solutions = %v", got)
			}
		}
		if got, ok := impl.HeadOf(a, nothing()); !ok || !sameFact(got, fact(1)) {
			t.Errorf("HeadOf = %v, %v", got, ok)
		}
	}
	if !sameLists(impl.Solutions(nil, []impl.Lit{}), impl.Solutions([]impl.Fact{}, nil)) || len(impl.Bound([]int{}, nothing())) != 0 {
		t.Error("nil and empty lists differ")
	}
}

func TestMatchesArgumentsAreNotChanged(t *testing.T) {
	bodies := manyBodies()
	for i, list := range solvedLists() {
		l := roomy(list)
		wantList := deepCopy(whole(l))
		for j := i; j < len(bodies); j += 7 {
			r := roomyRule(impl.Rule{Head: atom(2, varW, 3), Body: bodies[j]})
			bind := roomyNumbers([]int{3, -1, 0, 5})
			wantRule, wantBind := ruleNumbers(r), slices.Clone(bind[:cap(bind)])
			impl.Solutions(l, r.Body)
			impl.BodySafe(r.Body)
			impl.HeadOf(r.Head, bind)
			impl.Bound(r.Head.Args, bind)
			for _, lit := range r.Body {
				impl.Holds(l, lit, bind)
				for _, f := range l {
					impl.Match(lit.Atom, f, bind)
				}
			}
			if !sameFacts(whole(l), wantList) || !slices.Equal(ruleNumbers(r), wantRule) || !slices.Equal(bind[:cap(bind)], wantBind) {
				t.Fatalf("an argument is changed by %v", bodies[j])
			}
		}
	}
}

func TestMatchesShareNothing(t *testing.T) {
	bind := roomyNumbers([]int{3, -1, 0, 5})
	a := roomyAtom(atom(2, varW, varY))
	f := fact(2, roomyNumbers([]int{3, 0})...)
	calls := map[string]func() []int{
		"Bound":                func() []int { return impl.Bound(a.Args, bind) },
		"Bound of constants":   func() []int { return impl.Bound(f.Args, bind) },
		"HeadOf":               func() []int { head, _ := impl.HeadOf(a, bind); return head.Args },
		"HeadOf a fact":        func() []int { head, _ := impl.HeadOf(impl.Atom(f), bind); return head.Args },
		"Match":                func() []int { got, _ := impl.Match(a, f, bind); return got },
		"Match of no variable": func() []int { got, _ := impl.Match(impl.Atom(f), f, bind); return got },
	}
	for name, call := range calls {
		first, second := call(), call()
		want := slices.Clone(first)
		if len(want) == 0 {
			t.Errorf("%s returns nothing here", name)
		}
		fill(first[:cap(first)])
		if !slices.Equal(second, want) || !slices.Equal(call(), want) {
			t.Errorf("writing to what %s returns changes another result", name)
		}
		spare := slices.Concat(bind[:cap(bind)], a.Args[:cap(a.Args)], f.Args[:cap(f.Args)])
		if !slices.Equal(spare, []int{3, -1, 0, 5, 0, 0, 0, varW, varY, 0, 0, 0, 3, 0, 0, 0, 0}) {
			t.Fatalf("writing to what %s returns changes an argument: %v", name, spare)
		}
	}
}

func TestSolutionsShareNothing(t *testing.T) {
	list := roomy([]impl.Fact{fact(2, 1, 2), fact(2, 2, 3), fact(1, 2), fact(2, 3, 1)})
	r := roomyRule(rule(atom(0), yes(2, varW, varX), yes(2, varX, varY), no(1, varY)))
	wantList, wantRule := deepCopy(whole(list)), ruleNumbers(r)
	want := [][]int{{1, 2, 3, -1}, {2, 3, 1, -1}}
	first, second := impl.Solutions(list, r.Body), impl.Solutions(list, r.Body)
	if !sameLists(first, want) {
		t.Fatalf("Solutions = %v", first)
	}
	fill(first[0][:cap(first[0])])
	if !slices.Equal(first[1], want[1]) {
		t.Error("two solutions share memory")
	}
	every := first[:cap(first)]
	for i := range every {
		fill(every[i][:cap(every[i])])
		every[i] = nil
	}
	if !sameLists(second, want) || !sameFacts(whole(list), wantList) || !slices.Equal(ruleNumbers(r), wantRule) {
		t.Error("writing to solutions changes an argument or another result")
	}
	scribble(list)
	scribbleRule(r)
	if !sameLists(second, want) {
		t.Error("writing to an argument changes solutions")
	}
}

// solvedLists returns lists of facts, out of order, with facts twice, and with other places of the same predicates.
func solvedLists() [][]impl.Fact {
	return [][]impl.Fact{
		nil,
		{fact(0), fact(1, 0), fact(1, 3), fact(2, 0, 3), fact(2, 3, 3), fact(2, 3, 0), fact(2, 1, 4)},
		{fact(2, 5, 1), fact(1, 1), fact(2, 1, 5), fact(1, 5), fact(2, 5, 1), fact(1, 1), fact(2, 4, 4)},
		{fact(1, 2, 2), fact(2, 3), fact(2, 3, 3), fact(0, 1), fact(1), fact(2, 4, 3), fact(1, 4), fact(-1, 4), fact(2, 3, 3, 3)},
		{fact(2, 0, 1), fact(2, 1, 2), fact(2, 2, 3), fact(2, 3, 4), fact(2, 4, 0), fact(1, 0), fact(1, 2), fact(1, 4), fact(0)},
		slices.Concat(impl.AllFacts(2, 2)[:20], impl.AllFacts(1, 1)[3:]),
	}
}

// manyBodies returns bodies of all pairs of a table's literals, some with others around them, ones that are not safe among them.
func manyBodies() [][]impl.Lit {
	lits := []impl.Lit{
		yes(0), yes(1, varW), yes(1, varZ), yes(1, 4), yes(2, varX, varW), yes(2, varZ, varZ), yes(2, varX, 3), yes(2, 3, varY), yes(3, varX), yes(-1, varX),
		no(0), no(1, varX), no(2, varW, varY), no(2, varZ, varZ), no(2, 4, varY), no(1, -5), no(3, varX),
		same(varX, varW), same(varY, 3), same(6, varY), same(varW), same(2, 2),
		less(varZ, varX), less(0, varW), less(varY, 4), less(3, 1), {Kind: 4, Atom: atom(1, varW)},
	}
	var bodies [][]impl.Lit
	for _, a := range lits {
		bodies = append(bodies, []impl.Lit{a})
		for _, b := range lits {
			bodies = append(bodies, []impl.Lit{a, b})
			bodies = append(bodies, []impl.Lit{a, yes(2, varX, varY), b})
			bodies = append(bodies, []impl.Lit{a, b, yes(2, varW, varX), yes(2, varY, varW)})
			bodies = append(bodies, []impl.Lit{yes(2, varX, varZ), a, b, yes(2, varY, varZ)})
		}
	}
	return append(bodies, []impl.Lit{yes(0), yes(0), yes(0), yes(0), yes(0)})
}

// everyBind returns all that variables may have, by the first number that differs.
func everyBind() [][]int {
	all := make([][]int, 0, 7*7*7*7)
	for n := range cap(all) {
		all = append(all, []int{n/343 - 1, n/49%7 - 1, n/7%7 - 1, n%7 - 1})
	}
	return all
}

// hasJust tells whether just the variables of a body have something.
func hasJust(bind []int, body []impl.Lit) bool {
	vars := plainVars(impl.Rule{Body: body})
	for v, c := range bind {
		if slices.Contains(vars, v) != (c >= 0) {
			return false
		}
	}
	return true
}

func allHold(list []impl.Fact, body []impl.Lit, bind []int) bool {
	for _, l := range body {
		if !impl.Holds(list, l, bind) {
			return false
		}
	}
	return true
}

func plainMatch(a impl.Atom, f impl.Fact, bind []int) []int {
	if a.Pred != f.Pred || len(a.Args) != len(f.Args) {
		return nil
	}
	out := slices.Clone(bind)
	for i, term := range a.Args {
		if term < 0 && out[-1-term] < 0 {
			out[-1-term] = f.Args[i]
		}
		if term < 0 {
			term = out[-1-term]
		}
		if term != f.Args[i] {
			return nil
		}
	}
	return out
}

// plainValues returns what terms are, and false if one of them is none or has nothing.
func plainValues(args []int, bind []int) ([]int, bool) {
	var out []int
	for _, term := range args {
		if term < -4 || term > 5 || term < 0 && bind[-1-term] < 0 {
			return nil, false
		}
		if term < 0 {
			term = bind[-1-term]
		}
		out = append(out, term)
	}
	return out, true
}

func plainHolds(list []impl.Fact, l impl.Lit, bind []int) bool {
	values, ok := plainValues(l.Atom.Args, bind)
	if !ok {
		return false
	}
	there := plainHas(list, impl.Fact{Pred: l.Atom.Pred, Args: values})
	switch l.Kind {
	case impl.LitYes:
		return there
	case impl.LitNo:
		return !there
	case impl.LitSame:
		return len(values) == 2 && values[0] == values[1]
	case impl.LitLess:
		return len(values) == 2 && values[0] < values[1]
	}
	return false
}

func plainBodySafe(body []impl.Lit) bool {
	r := impl.Rule{Body: body}
	for _, l := range body {
		if l.Kind < 0 || l.Kind > 3 {
			return false
		}
	}
	return len(body) <= 4 && !hasNoTerm(r) && plainSafe(r)
}

// plainSolutions tries all constants for the variables of a body, the last one's first, for lists of constants alone.
func plainSolutions(list []impl.Fact, body []impl.Lit) [][]int {
	if !plainBodySafe(body) {
		return nil
	}
	binds := [][]int{nothing()}
	for _, v := range plainVars(impl.Rule{Body: body}) {
		var longer [][]int
		for _, bind := range binds {
			for c := range 6 {
				next := slices.Clone(bind)
				next[v] = c
				longer = append(longer, next)
			}
		}
		binds = longer
	}
	return slices.DeleteFunc(binds, func(bind []int) bool {
		return slices.ContainsFunc(body, func(l impl.Lit) bool { return !plainHolds(list, l, bind) })
	})
}

func sameLists(a, b [][]int) bool {
	return slices.EqualFunc(a, b, slices.Equal[[]int])
}
