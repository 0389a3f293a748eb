package tests

import (
	"math"
	"slices"
	"testing"

	"loop.example/wholerules/impl"
)

// ring is the document's body, and ringFacts are its facts.
func ring() []impl.Lit {
	return []impl.Lit{yes(0, varW, varX), yes(0, varX, varY), yes(0, varY, varW)}
}

func ringFacts() []impl.Fact {
	return []impl.Fact{fact(0, 0, 1), fact(0, 1, 2), fact(0, 2, 0)}
}

// mixedFacts are facts out of order, some twice, of all predicates, with other places of the same one.
func mixedFacts() []impl.Fact {
	return []impl.Fact{fact(2, 3, 1), fact(1, 4), fact(0), fact(2, 3, 1), fact(1, 0), fact(2, 0, 0), fact(9, 1), fact(-1, 2), fact(1, 4, 4), fact(1), fact(2, 3, 5), fact(2, 4, 1)}
}

func TestLeapFits(t *testing.T) {
	all := []int{0, 1, 2, 3, 4, 5}
	cases := []struct {
		name string
		list []impl.Fact
		body []impl.Lit
		bind []int
		v    int
		want []int
	}{
		{"of the document", ringFacts(), ring(), nothing(), 0, []int{0, 1, 2}},
		{"of the document, behind another one", ringFacts(), ring(), has(0, -1, -1, -1), 1, []int{1}},
		{"of the document, the last one", ringFacts(), ring(), has(0, 1, -1, -1), 2, []int{2}},
		{"of the document, out of the ring", ringFacts(), ring(), has(0, 2, -1, -1), 2, nil},
		{"of the document, out of the facts", ringFacts(), ring(), has(3, -1, -1, -1), 1, nil},
		{"of the document, what others do not have", ringFacts(), ring(), has(0, -1, 0, -1), 1, nil},
		{"no body", nil, nil, nothing(), 2, all},
		{"no body, the others have something", nil, nil, has(3, 5, -1, 0), 2, all},
		{"a variable that the body does not have", mixedFacts(), []impl.Lit{yes(1, varW)}, nothing(), 3, all},
		{"such a variable, and it can still hold", mixedFacts(), []impl.Lit{yes(1, varW)}, has(4, -1, -1, -1), 3, all},
		{"such a variable, and it cannot hold", mixedFacts(), []impl.Lit{yes(1, varW)}, has(3, -1, -1, -1), 3, nil},
		{"such a variable, and it is not less", mixedFacts(), []impl.Lit{yes(1, varW), less(varW, 4)}, has(4, -1, -1, -1), 1, nil},
		{"one that the body does not have has something", mixedFacts(), []impl.Lit{yes(1, varW)}, has(-1, 5, 3, 3), 0, []int{0, 4}},
		{"a fact alone that is there", mixedFacts(), []impl.Lit{yes(2, 3, 1), yes(0)}, nothing(), 0, all},
		{"a fact alone that is not there", mixedFacts(), []impl.Lit{yes(2, 1, 3)}, nothing(), 0, nil},
		{"a fact that is not there ends all", mixedFacts(), []impl.Lit{yes(1, varX), yes(2, 1, 3)}, nothing(), 1, nil},
		{"an atom of no fact ends all", mixedFacts(), []impl.Lit{yes(1, varX), yes(2, varY, varY), yes(7, varZ)}, nothing(), 1, nil},
		{"a denied fact that is there ends all", mixedFacts(), []impl.Lit{yes(1, varX), no(0)}, nothing(), 1, nil},
		{"a denied fact that is not there", mixedFacts(), []impl.Lit{yes(1, varX), no(2, 1, 3)}, nothing(), 1, []int{0, 4}},
		{"constants that are not the same end all", mixedFacts(), []impl.Lit{same(1, 2), yes(1, varX)}, nothing(), 1, nil},
		{"constants that are the same", mixedFacts(), []impl.Lit{same(2, 2), yes(1, varX)}, nothing(), 1, []int{0, 4}},
		{"one term that is never the same ends all", mixedFacts(), []impl.Lit{yes(1, varX), same(1)}, nothing(), 1, nil},
		{"no terms that are never less end all", mixedFacts(), []impl.Lit{yes(1, varX), less()}, nothing(), 1, nil},
		{"one variable is never the same", mixedFacts(), []impl.Lit{yes(1, varX), same(varX)}, nothing(), 1, nil},
		{"one variable that has nothing may be", mixedFacts(), []impl.Lit{yes(1, varX), yes(1, varY), same(varY)}, nothing(), 1, []int{0, 4}},
		{"three terms are never less", mixedFacts(), []impl.Lit{yes(1, varX), less(0, varX, 5)}, nothing(), 1, nil},
		{"other places of the predicate", mixedFacts(), []impl.Lit{yes(1, varY)}, nothing(), 2, []int{0, 4}},
		{"the second place", mixedFacts(), []impl.Lit{yes(2, varW, varX)}, nothing(), 1, []int{0, 1, 5}},
		{"the second place, the first one known", mixedFacts(), []impl.Lit{yes(2, varW, varX)}, has(3, -1, -1, -1), 1, []int{1, 5}},
		{"the second place, the first one a constant", mixedFacts(), []impl.Lit{yes(2, 4, varX)}, nothing(), 1, []int{1}},
		{"the first place, the second one known", mixedFacts(), []impl.Lit{yes(2, varW, varX)}, has(-1, 1, -1, -1), 0, []int{3, 4}},
		{"the first place of a later variable", mixedFacts(), []impl.Lit{yes(2, varZ, varX)}, nothing(), 3, []int{0, 3, 4}},
		{"a variable twice", mixedFacts(), []impl.Lit{yes(2, varX, varX)}, nothing(), 1, []int{0}},
		{"a variable twice, of no fact", ringFacts(), []impl.Lit{yes(0, varX, varX)}, nothing(), 1, nil},
		{"a variable twice, another one", mixedFacts(), []impl.Lit{yes(2, varX, varX), yes(1, varW)}, has(-1, 0, -1, -1), 0, []int{0, 4}},
		{"a variable twice that has no such fact", mixedFacts(), []impl.Lit{yes(2, varX, varX), yes(1, varW)}, has(-1, 3, -1, -1), 0, nil},
		{"in several atoms", mixedFacts(), []impl.Lit{yes(2, varX, varY), yes(1, varX)}, nothing(), 1, []int{0, 4}},
		{"in several atoms, in other places", mixedFacts(), []impl.Lit{yes(2, varX, varY), yes(2, varZ, varX)}, nothing(), 1, []int{0}},
		{"denied, and all has constants", mixedFacts(), []impl.Lit{yes(2, varW, varX), no(1, varW)}, nothing(), 0, []int{3}},
		{"denied, and another one has nothing", mixedFacts(), []impl.Lit{yes(2, varW, varX), no(2, varW, varX)}, nothing(), 0, []int{0, 3, 4}},
		{"denied, and another one has something", mixedFacts(), []impl.Lit{yes(2, varW, varX), no(2, varX, varW)}, has(0, -1, -1, -1), 1, nil},
		{"denied twice", mixedFacts(), []impl.Lit{yes(2, varW, 1), no(2, varW, varW)}, nothing(), 0, []int{3, 4}},
		{"what others have is denied", mixedFacts(), []impl.Lit{yes(2, varW, varX), no(1, varW)}, has(0, -1, -1, -1), 1, nil},
		{"the same as a constant", mixedFacts(), []impl.Lit{yes(2, varW, varX), same(3, varW)}, nothing(), 0, []int{3}},
		{"the same as one that has nothing", mixedFacts(), []impl.Lit{yes(2, varW, varX), same(varX, varW)}, nothing(), 0, []int{0, 3, 4}},
		{"the same as one that has something", mixedFacts(), []impl.Lit{yes(2, varW, varX), same(varX, varW)}, has(0, -1, -1, -1), 1, []int{0}},
		{"the same as itself", mixedFacts(), []impl.Lit{yes(2, varW, varX), same(varX, varX)}, nothing(), 1, []int{0, 1, 5}},
		{"less than itself", mixedFacts(), []impl.Lit{yes(2, varW, varX), less(varX, varX)}, nothing(), 1, nil},
		{"less than itself, and another one comes", mixedFacts(), []impl.Lit{yes(2, varW, varX), less(varX, varX)}, nothing(), 0, []int{0, 3, 4}},
		{"less than a constant", mixedFacts(), []impl.Lit{yes(2, varW, varX), less(varX, 1)}, nothing(), 1, []int{0}},
		{"a constant less", mixedFacts(), []impl.Lit{yes(2, varW, varX), less(0, varX)}, nothing(), 1, []int{1, 5}},
		{"less than one that has something", mixedFacts(), []impl.Lit{yes(2, varW, varX), less(varX, varW)}, has(3, -1, -1, -1), 1, []int{1}},
		{"one that has something is less", mixedFacts(), []impl.Lit{yes(2, varW, varX), less(varW, varX)}, has(3, -1, -1, -1), 1, []int{5}},
		{"what others have is not less", mixedFacts(), []impl.Lit{yes(2, varW, varX), less(varW, 3), yes(1, varZ)}, has(3, -1, -1, -1), 3, nil},
		{"predicates below 0, and past the most", mixedFacts(), []impl.Lit{yes(-1, varX), yes(9, varW)}, nothing(), 0, []int{1}},
		{"more places than there may be", []impl.Fact{fact(0, 1, 2, 3, 1), fact(0, 1, 2, 3, 4), fact(0, 4, 5, 5, 4)}, []impl.Lit{yes(0, varZ, varY, varX, varZ)}, nothing(), 3, []int{1, 4}},
	}
	for _, c := range cases {
		if got := impl.LeapFits(c.list, c.body, c.bind, c.v); !slices.Equal(got, c.want) {
			t.Errorf("%s: LeapFits(%v, %v, %v, %d) = %v, want %v", c.name, c.list, c.body, c.bind, c.v, got, c.want)
		}
		if got := plainLeapFits(c.list, c.body, c.bind, c.v); !slices.Equal(got, c.want) {
			t.Errorf("%s: the plain model tells %v", c.name, got)
		}
	}
}

func TestLeapFitsOfWhatIsNone(t *testing.T) {
	list, body := ringFacts(), ring()
	for name, bind := range noBinds() {
		for v := range impl.MaxVars {
			if got := impl.LeapFits(list, nil, bind, v); len(got) != 0 {
				t.Errorf("%s: LeapFits of %d = %v", name, v, got)
			}
		}
	}
	for _, v := range []int{-1, 4, 5, 64, -64, math.MaxInt, math.MinInt} {
		for _, b := range [][]impl.Lit{nil, body} {
			if got := impl.LeapFits(list, b, nothing(), v); len(got) != 0 {
				t.Errorf("LeapFits of the variable %d = %v", v, got)
			}
		}
	}
	for v := range impl.MaxVars {
		for c := range 6 {
			bind := nothing()
			bind[v] = c
			for _, b := range [][]impl.Lit{nil, body} {
				if got := impl.LeapFits(list, b, bind, v); len(got) != 0 {
					t.Errorf("LeapFits of the variable %d, which has %d, = %v", v, c, got)
				}
			}
		}
	}
}

// What is no body, and what are no facts of constants, gives nothing, whatever is asked.
func TestLeapsOfWhatIsNone(t *testing.T) {
	list := append(ringFacts(), impl.AllFacts(1, 1)...)
	unsafe := [][]impl.Lit{
		{no(1, varW)}, {same(varW, 1)}, {yes(1, varX), less(varX, varY)}, {yes(0), yes(0), yes(0), yes(0), yes(0)}, {no(0), no(0), no(0), no(0), no(0)},
		{yes(1, varW), {Kind: 4, Atom: atom(1, varW)}}, {{Kind: -1, Atom: atom(1, 1)}}, {yes(1, varW), {Kind: math.MaxInt, Atom: atom(1)}},
		{yes(1, varW), yes(1, 6)}, {yes(1, -5)}, {no(1, 6)}, {same(6, 6)}, {less(-5, 3)}, append(ring(), yes(1, math.MinInt)),
	}
	for _, body := range unsafe {
		checkNoLeaps(t, list, body)
		if got := impl.LeapOrders(body); len(got) != 0 {
			t.Errorf("LeapOrders(%v) = %v", body, got)
		}
	}
	for _, n := range noConstants() {
		for _, f := range []impl.Fact{fact(1, n), fact(7, n), fact(1, 2, n), fact(-5, n, 0)} {
			for _, body := range [][]impl.Lit{nil, {yes(1, varW)}, {same(1, 1)}, {no(2, 1, 1)}, {less(2, 1)}} {
				for _, l := range [][]impl.Fact{{f}, append([]impl.Fact{f}, list...), append(slices.Clone(list), f)} {
					checkNoLeaps(t, l, body)
				}
			}
		}
	}
}

func checkNoLeaps(t *testing.T, list []impl.Fact, body []impl.Lit) {
	t.Helper()
	for v := range impl.MaxVars {
		if got := impl.LeapFits(list, body, nothing(), v); len(got) != 0 {
			t.Errorf("LeapFits(%v, %v, .., %d) = %v", list, body, v, got)
		}
	}
	for many := range impl.MaxVars + 1 {
		checkNoOrder(t, list, body, numbersTo(many))
	}
	checkNoOrder(t, list, body, plainVars(impl.Rule{Body: body}))
}

func checkNoOrder(t *testing.T, list []impl.Fact, body []impl.Lit, order []int) {
	t.Helper()
	if got, ok := impl.LeapSolutions(list, body, order); ok || len(got) != 0 {
		t.Errorf("LeapSolutions(%v, %v, %v) = %v, %v", list, body, order, got, ok)
	}
	if got := impl.LeapNodes(list, body, order); got != -1 {
		t.Errorf("LeapNodes(%v, %v, %v) = %d", list, body, order, got)
	}
}

func TestLeapsOfOrdersThatAreNone(t *testing.T) {
	list := append(ringFacts(), impl.AllFacts(1, 1)...)
	cases := []struct {
		name   string
		body   []impl.Lit
		orders [][]int
	}{
		{"of three", ring(), [][]int{nil, {0}, {0, 1}, {0, 1, 3}, {3, 0, 1}, {0, 1, 1}, {2, 2, 2}, {0, 1, 2, 3}, {0, 1, 2, 0}, {0, 1, 2, 2}, {-1, 0, 1}, {0, 1, -1}, {-1, -2, -3}, {1, 2, 3}, {0, 1, 4}, {0, 1, 64}, {0, 1, math.MaxInt}, {0, 1, math.MinInt}}},
		{"of two, not of the first ones", []impl.Lit{yes(0, varX, varZ)}, [][]int{nil, {1}, {3}, {0, 1}, {0, 3}, {1, 2}, {1, 1}, {3, 3}, {1, 3, 1}, {0, 1, 2, 3}, {1, 4}, {1, -4}, {-2, -4}}},
		{"of none", []impl.Lit{yes(0, 0, 1)}, [][]int{{0}, {3}, {-1}, {4}, {0, 1, 2, 3}}},
		{"of none, and it does not hold", []impl.Lit{yes(0, 1, 0)}, [][]int{{0}, {-1}}},
		{"of no body", nil, [][]int{{0}, {3}, {-1}, {0, 1, 2, 3}}},
		{"of one, and no fact", []impl.Lit{yes(7, varW)}, [][]int{nil, {1}, {0, 0}, {0, 1}}},
	}
	for _, c := range cases {
		for _, order := range c.orders {
			checkNoOrder(t, list, c.body, order)
			checkNoOrder(t, nil, c.body, order)
		}
	}
}

// leapCase is a body with its solutions, and orders with how many constants they try.
type leapCase struct {
	name   string
	list   []impl.Fact
	body   []impl.Lit
	want   [][]int
	orders [][]int
	nodes  []int
}

func leapCases() []leapCase {
	none := [][]int{nil}
	mixed := mixedFacts()
	return []leapCase{
		{"of the document", ringFacts(), ring(), [][]int{{0, 1, 2, -1}, {1, 2, 0, -1}, {2, 0, 1, -1}}, [][]int{{0, 1, 2}, {0, 2, 1}, {1, 0, 2}, {1, 2, 0}, {2, 0, 1}, {2, 1, 0}}, []int{9, 9, 9, 9, 9, 9}},
		{"no body, no facts", nil, nil, [][]int{nothing()}, none, []int{0}},
		{"no body", mixed, []impl.Lit{}, [][]int{nothing()}, none, []int{0}},
		{"no variables, there", mixed, []impl.Lit{yes(2, 0, 0), no(2, 0, 1), same(3, 3), less(0, 1)}, [][]int{nothing()}, none, []int{0}},
		{"no variables, not there", mixed, []impl.Lit{yes(2, 0, 1)}, nil, none, []int{0}},
		{"no variables, one of two is there", mixed, []impl.Lit{yes(0), yes(2, 0, 1)}, nil, none, []int{0}},
		{"no variables, denied", mixed, []impl.Lit{no(0)}, nil, none, []int{0}},
		{"no variables, not denied", nil, []impl.Lit{no(0)}, [][]int{nothing()}, none, []int{0}},
		{"no variables, not less", mixed, []impl.Lit{less(3, 3)}, nil, none, []int{0}},
		{"no variables, not the same", mixed, []impl.Lit{same(3, 4)}, nil, none, []int{0}},
		{"no terms are the same", nil, []impl.Lit{same()}, nil, none, []int{0}},
		{"an atom, no facts", nil, []impl.Lit{yes(1, varW)}, nil, [][]int{{0}}, []int{0}},
		{"what does not hold ends all", mixed, []impl.Lit{yes(1, varW), yes(2, 1, 3)}, nil, [][]int{{0}}, []int{0}},
		{"what is denied ends all", mixed, []impl.Lit{yes(1, varW), no(0)}, nil, [][]int{{0}}, []int{0}},
		{"an atom", mixed, []impl.Lit{yes(2, varX, varZ)}, [][]int{{-1, 0, -1, 0}, {-1, 3, -1, 1}, {-1, 3, -1, 5}, {-1, 4, -1, 1}}, [][]int{{1, 3}, {3, 1}}, []int{7, 7}},
		{"by the first variable, not by the order", []impl.Fact{fact(2, 1, 4), fact(2, 2, 3), fact(2, 3, 3)}, []impl.Lit{yes(2, varY, varW)}, [][]int{{3, -1, 2, -1}, {3, -1, 3, -1}, {4, -1, 1, -1}}, [][]int{{0, 2}, {2, 0}}, []int{5, 6}},
		{"a variable twice", mixed, []impl.Lit{yes(2, varY, varY)}, [][]int{{-1, -1, 0, -1}}, [][]int{{2}}, []int{1}},
		{"a variable twice, of no fact", ringFacts(), []impl.Lit{yes(0, varY, varY)}, nil, [][]int{{2}}, []int{0}},
		{"a variable twice, and another one", mixed, []impl.Lit{yes(2, varY, varY), yes(2, varX, 1)}, [][]int{{-1, 3, 0, -1}, {-1, 4, 0, -1}}, [][]int{{1, 2}, {2, 1}}, []int{4, 3}},
		{"denied at the end", mixed, []impl.Lit{no(2, varX, varW), yes(2, varW, varX), yes(1, varW)}, [][]int{{4, 1, -1, -1}}, [][]int{{0, 1}, {1, 0}}, []int{3, 4}},
		{"denied as soon as it can", mixed, []impl.Lit{no(1, varW), yes(2, varW, varX)}, [][]int{{3, 1, -1, -1}, {3, 5, -1, -1}}, [][]int{{0, 1}, {1, 0}}, []int{3, 5}},
		{"compared as soon as it can", mixed, []impl.Lit{less(varX, 2), yes(2, varW, varX), same(varW, 3)}, [][]int{{3, 1, -1, -1}}, [][]int{{0, 1}, {1, 0}}, []int{2, 3}},
		{"compared at the end", mixed, []impl.Lit{less(varX, varW), yes(2, varW, varX)}, [][]int{{3, 1, -1, -1}, {4, 1, -1, -1}}, [][]int{{0, 1}, {1, 0}}, []int{5, 5}},
		{"tried, and none holds", mixed, []impl.Lit{yes(2, varW, varX), less(varW, varX, 0)}, nil, [][]int{{0, 1}, {1, 0}}, []int{3, 3}},
		{"atoms that share nothing", ringFacts()[:2], []impl.Lit{yes(0, varZ, varY), yes(0, varX, varW)}, [][]int{{1, 0, 1, 0}, {1, 0, 2, 1}, {2, 1, 1, 0}, {2, 1, 2, 1}}, [][]int{{0, 1, 2, 3}, {3, 2, 0, 1}, {0, 3, 1, 2}}, []int{2 + 2 + 4 + 4, 2 + 2 + 4 + 4, 2 + 4 + 4 + 4}},
		{"a dead end", []impl.Fact{fact(0, 0, 1), fact(0, 0, 2), fact(1, 1, 3), fact(2, 3, 0)}, []impl.Lit{yes(0, varW, varX), yes(1, varX, varY), yes(2, varY, varW)}, [][]int{{0, 1, 3, -1}}, [][]int{{0, 1, 2}, {2, 1, 0}}, []int{3, 3}},
		{"dead ends", []impl.Fact{fact(0, 0, 1), fact(0, 1, 2), fact(1, 1, 2), fact(1, 2, 1)}, []impl.Lit{yes(0, varW, varX), yes(1, varW, varX)}, [][]int{{1, 2, -1, -1}}, [][]int{{0, 1}, {1, 0}}, []int{2, 3}},
	}
}

func TestLeapSolutions(t *testing.T) {
	for _, c := range leapCases() {
		for i, order := range c.orders {
			if got, ok := impl.LeapSolutions(c.list, c.body, order); !ok || !sameLists(got, c.want) {
				t.Errorf("%s: LeapSolutions(%v, %v, %v) = %v, %v, want %v", c.name, c.list, c.body, order, got, ok, c.want)
			}
			if got := impl.LeapNodes(c.list, c.body, order); got != c.nodes[i] {
				t.Errorf("%s: LeapNodes(%v, %v, %v) = %d, want %d", c.name, c.list, c.body, order, got, c.nodes[i])
			}
			if got, nodes := plainLeaps(c.list, c.body, order); !sameLists(got, c.want) || nodes != c.nodes[i] {
				t.Errorf("%s: the plain model tells %v and %d", c.name, got, nodes)
			}
		}
	}
}

func TestLeapOrders(t *testing.T) {
	cases := []struct {
		name string
		body []impl.Lit
		want [][]int
	}{
		{"no body", nil, [][]int{{}}},
		{"no variables", []impl.Lit{yes(0), no(1, 3), same(1, 2)}, [][]int{{}}},
		{"the first one", []impl.Lit{yes(1, varW)}, [][]int{{0}}},
		{"the last one", []impl.Lit{yes(3, varZ, varZ, varZ)}, [][]int{{3}}},
		{"two, the last one first", []impl.Lit{yes(2, varZ, varX)}, [][]int{{1, 3}, {3, 1}}},
		{"of two atoms", []impl.Lit{yes(1, varY), yes(2, 4, varW)}, [][]int{{0, 2}, {2, 0}}},
		{"of the document", ring(), [][]int{{0, 1, 2}, {0, 2, 1}, {1, 0, 2}, {1, 2, 0}, {2, 0, 1}, {2, 1, 0}}},
		{"one left out", []impl.Lit{less(varZ, varX), yes(2, varZ, varX), yes(1, varY)}, [][]int{{1, 2, 3}, {1, 3, 2}, {2, 1, 3}, {2, 3, 1}, {3, 1, 2}, {3, 2, 1}}},
		{"all", []impl.Lit{yes(2, varZ, varX), no(1, varX), yes(2, varY, varW)}, everyOrder(4)},
		{"all in one atom", []impl.Lit{yes(9, varW, varX, varY, varZ, varW)}, everyOrder(4)},
	}
	for _, c := range cases {
		if got := impl.LeapOrders(c.body); !sameLists(got, c.want) {
			t.Errorf("%s: LeapOrders(%v) = %v, want %v", c.name, c.body, got, c.want)
		}
	}
}

// The eleventh promise: variable by variable, in each order, there are the same solutions.
func TestEachOrderOfVariablesFindsTheSame(t *testing.T) {
	lists := solvedLists()
	next := numbersFrom(21)
	found, more, fewer := 0, 0, 0
	for _, body := range manyBodies() {
		orders := plainLeapOrders(body)
		if got := impl.LeapOrders(body); !sameLists(got, orders) {
			t.Fatalf("LeapOrders(%v) = %v, want %v", body, got, orders)
		}
		if len(orders) == 0 {
			checkNoOrder(t, lists[1], body, plainVars(impl.Rule{Body: body}))
			continue
		}
		for _, list := range lists {
			want := plainSolutions(list, body)
			found += len(want)
			tried := orders
			if len(want) > 200 {
				tried = [][]int{orders[0], orders[next(len(orders))]}
			}
			first := -1
			for _, order := range tried {
				nodes := checkLeaps(t, list, body, order, want)
				if first < 0 {
					first = nodes
				}
				if nodes > first {
					more++
				}
				if nodes < first {
					fewer++
				}
			}
		}
	}
	if found < 10000 || more < 1000 || fewer < 1000 {
		t.Errorf("%d solutions; %d times more constants are tried than in the first order, and %d times fewer", found, more, fewer)
	}
}

// checkLeaps checks what is found in an order, and returns how many constants are tried.
func checkLeaps(t *testing.T, list []impl.Fact, body []impl.Lit, order []int, want [][]int) int {
	t.Helper()
	solutions, nodes := plainLeaps(list, body, order)
	if got, ok := impl.LeapSolutions(list, body, order); !ok || !sameLists(got, want) || !sameLists(solutions, want) {
		t.Fatalf("LeapSolutions(%v, %v, %v) = %v, %v, want %v", list, body, order, got, ok, want)
	}
	if got := impl.LeapNodes(list, body, order); got != nodes {
		t.Fatalf("LeapNodes(%v, %v, %v) = %d, want %d", list, body, order, got, nodes)
	}
	return nodes
}

// Each list of what variables have, and each variable, for a few bodies; and a few of these for many bodies.
func TestLeapFitsAgainstPlainOnes(t *testing.T) {
	bodies := [][]impl.Lit{
		nil,
		ring(),
		{yes(2, varW, varX), yes(2, varX, varY), no(2, varY, varW), less(varW, varY)},
		{yes(2, varZ, varX), no(1, varZ), less(varX, varZ), yes(1, varX)},
		{yes(2, varY, varY), yes(1, varW), same(varW, varY)},
		{yes(2, varX, varZ), yes(2, varZ, varW), yes(2, varW, varY), same(varX)},
	}
	for _, list := range append(solvedLists(), ringFacts()) {
		for _, body := range bodies {
			for _, bind := range everyBind() {
				checkLeapFits(t, list, body, bind)
			}
		}
	}
	next := numbersFrom(22)
	all := everyBind()
	for _, body := range manyBodies() {
		for _, list := range solvedLists() {
			checkLeapFits(t, list, body, nothing())
			for range 3 {
				checkLeapFits(t, list, body, all[next(len(all))])
			}
			if found := plainSolutions(list, body); len(found) > 0 {
				bind := found[next(len(found))]
				bind[next(4)], bind[next(4)] = -1, -1
				checkLeapFits(t, list, body, bind)
			}
		}
	}
}

func checkLeapFits(t *testing.T, list []impl.Fact, body []impl.Lit, bind []int) {
	t.Helper()
	for v := range impl.MaxVars {
		if got, want := impl.LeapFits(list, body, bind, v), plainLeapFits(list, body, bind, v); !slices.Equal(got, want) {
			t.Fatalf("LeapFits(%v, %v, %v, %d) = %v, want %v", list, body, bind, v, got, want)
		}
	}
}

// As many literals, variables and constants as there may be.
func TestLeapsOfAllFacts(t *testing.T) {
	arity := slices.Repeat([]int{2}, impl.MaxPreds)
	all := allOf(arity)
	last := impl.MaxPreds - 1
	square := []impl.Lit{yes(last, varW, varX), yes(0, varX, varY), yes(last, varY, varZ), yes(0, varZ, varW)}
	for _, order := range everyOrder(4) {
		got, ok := impl.LeapSolutions(all, square, order)
		if !ok || len(got) != 1296 || !slices.IsSortedFunc(got, slices.Compare[[]int]) {
			t.Fatalf("LeapSolutions in the order %v has %d solutions, %v", order, len(got), ok)
		}
		if got := impl.LeapNodes(all, square, order); got != 6+36+216+1296 {
			t.Fatalf("LeapNodes in the order %v = %d", order, got)
		}
	}
	for v := range impl.MaxVars {
		if got := impl.LeapFits(all, square, nothing(), v); !slices.Equal(got, numbersTo(6)) {
			t.Errorf("LeapFits of %d = %v", v, got)
		}
	}
	checkNoLeaps(t, all, append(slices.Clone(square), yes(0, varW, varX)))
	var wide []impl.Fact
	for n := range 1296 {
		wide = append(wide, fact(0, slices.Repeat(digits(n, 6, 4), 5)...))
	}
	body := []impl.Lit{yes(0, slices.Repeat([]int{varY, varW, varZ, varX}, 5)...)}
	if got := impl.LeapNodes(wide, body, []int{2, 0, 3, 1}); got != 6+36+216+1296 {
		t.Errorf("LeapNodes of twenty places = %d", got)
	}
	if got, ok := impl.LeapSolutions(wide, body, []int{2, 0, 3, 1}); !ok || !sameLists(got, impl.Solutions(wide, body)) || len(got) != 1296 {
		t.Errorf("LeapSolutions of twenty places has %d solutions, %v", len(got), ok)
	}
}

func TestLeapsNilIsEmpty(t *testing.T) {
	for _, args := range [][]int{nil, {}} {
		for _, list := range [][]impl.Fact{{{Pred: 1, Args: nil}}, {{Pred: 1, Args: []int{}}}} {
			body := []impl.Lit{{Atom: impl.Atom{Pred: 1, Args: args}}}
			for _, order := range [][]int{nil, {}} {
				if got, ok := impl.LeapSolutions(list, body, order); !ok || !sameLists(got, [][]int{nothing()}) || impl.LeapNodes(list, body, order) != 0 {
					t.Errorf("LeapSolutions = %v, %v", got, ok)
				}
			}
			if got := impl.LeapFits(list, body, nothing(), 1); !slices.Equal(got, numbersTo(6)) {
				t.Errorf("LeapFits = %v", got)
			}
			denied := []impl.Lit{{Kind: impl.LitNo, Atom: impl.Atom{Pred: 1, Args: args}}}
			if got, ok := impl.LeapSolutions(list, denied, nil); !ok || len(got) != 0 {
				t.Errorf("LeapSolutions of what is denied = %v, %v", got, ok)
			}
			if got := impl.LeapFits(list, denied, nothing(), 1); len(got) != 0 {
				t.Errorf("LeapFits of what is denied = %v", got)
			}
		}
	}
	for _, body := range [][]impl.Lit{nil, {}} {
		for _, list := range [][]impl.Fact{nil, {}} {
			for _, order := range [][]int{nil, {}} {
				if got, ok := impl.LeapSolutions(list, body, order); !ok || !sameLists(got, [][]int{nothing()}) || impl.LeapNodes(list, body, order) != 0 {
					t.Errorf("LeapSolutions of nothing = %v, %v", got, ok)
				}
			}
			if got := impl.LeapFits(list, body, nothing(), 1); !slices.Equal(got, numbersTo(6)) {
				t.Errorf("LeapFits of nothing = %v", got)
			}
		}
		if got := impl.LeapOrders(body); len(got) != 1 || len(got[0]) != 0 {
			t.Errorf("LeapOrders of nothing = %v", got)
		}
	}
}

func TestLeapsArgumentsAreNotChanged(t *testing.T) {
	bodies := manyBodies()
	for i, facts := range solvedLists() {
		list := roomy(facts)
		for j := i; j < len(bodies); j += 5 {
			r := roomyRule(impl.Rule{Body: bodies[j]})
			bind := roomyNumbers([]int{-1, 3, -1, 0})
			order := roomyNumbers(plainVars(r))
			slices.Reverse(order)
			before := leapNumbers(list, r, bind, order)
			for v := range impl.MaxVars {
				impl.LeapFits(list, r.Body, bind, v)
			}
			impl.LeapSolutions(list, r.Body, order)
			impl.LeapNodes(list, r.Body, order)
			impl.LeapOrders(r.Body)
			if !slices.Equal(leapNumbers(list, r, bind, order), before) {
				t.Fatalf("an argument is changed by %v", bodies[j])
			}
		}
	}
}

func TestLeapsShareNothing(t *testing.T) {
	for _, c := range leapCases() {
		list, r := roomy(c.list), roomyRule(impl.Rule{Body: c.body})
		bind := roomyNumbers(nothing())
		for _, plain := range c.orders {
			order := roomyNumbers(plain)
			before := leapNumbers(list, r, bind, order)
			calls := map[string]func() [][]int{
				"LeapSolutions": func() [][]int { got, _ := impl.LeapSolutions(list, r.Body, order); return got },
				"LeapOrders":    func() [][]int { return slices.DeleteFunc(impl.LeapOrders(r.Body), isEmpty) },
				"LeapFits":      func() [][]int { return slices.DeleteFunc([][]int{impl.LeapFits(list, r.Body, bind, 1)}, isEmpty) },
			}
			for name, call := range calls {
				checkApart(t, name, call, -77)
				checkNumbersApart(t, call())
				first, second := call(), call()
				want := call()
				every := first[:cap(first)]
				for i := range every {
					every[i] = nil
				}
				if !sameLists(second, want) || !sameLists(call(), want) {
					t.Errorf("%s: two results of %s share memory", c.name, name)
				}
			}
			if !slices.Equal(leapNumbers(list, r, bind, order), before) {
				t.Fatalf("%s: writing to a result changes an argument", c.name)
			}
		}
	}
}

func isEmpty(list []int) bool {
	return len(list) == 0
}

func TestLeapsStayWhenArgumentsChange(t *testing.T) {
	for _, c := range leapCases() {
		list, r := roomy(c.list), roomyRule(impl.Rule{Body: c.body})
		order, bind := roomyNumbers(c.orders[0]), roomyNumbers(nothing())
		orders, fits := impl.LeapOrders(c.body), impl.LeapFits(c.list, c.body, nothing(), 0)
		gotOrders, gotFits := impl.LeapOrders(r.Body), impl.LeapFits(list, r.Body, bind, 0)
		got, _ := impl.LeapSolutions(list, r.Body, order)
		scribble(list)
		scribbleRule(r)
		fill(order[:cap(order)])
		fill(bind[:cap(bind)])
		if !sameLists(got, c.want) || !sameLists(gotOrders, orders) || !slices.Equal(gotFits, fits) {
			t.Errorf("%s: writing to an argument changes a result", c.name)
		}
	}
}

// leapNumbers returns all numbers of the arguments of the chapter's functions, those of unused capacity among them.
func leapNumbers(list []impl.Fact, r impl.Rule, bind, order []int) []int {
	out := slices.Concat(bind[:cap(bind)], order[:cap(order)], ruleNumbers(r))
	for _, f := range whole(list) {
		out = append(append(out, f.Pred), f.Args...)
	}
	return out
}

// plainLeapOrders returns the lists of the variables of a body, each once, among all lists of numbers.
func plainLeapOrders(body []impl.Lit) [][]int {
	if !plainBodySafe(body) {
		return nil
	}
	vars := plainVars(impl.Rule{Body: body})
	var orders [][]int
	for _, at := range everyOrder(len(vars)) {
		order := make([]int, len(vars))
		for i, n := range at {
			order[i] = vars[n]
		}
		orders = append(orders, order)
	}
	return orders
}

// plainStill tells whether a safe body can still hold.
func plainStill(list []impl.Fact, body []impl.Lit, bind []int) bool {
	for _, l := range body {
		if l.Kind == impl.LitYes {
			if !slices.ContainsFunc(list, func(f impl.Fact) bool { return plainMatch(l.Atom, f, bind) != nil }) {
				return false
			}
			continue
		}
		if _, ok := plainValues(l.Atom.Args, bind); ok && !plainHolds(list, l, bind) {
			return false
		}
	}
	return true
}

// plainLeapFits tries all constants, for lists of constants alone, what variables have, and one of them.
func plainLeapFits(list []impl.Fact, body []impl.Lit, bind []int, v int) []int {
	if !plainBodySafe(body) || bind[v] >= 0 {
		return nil
	}
	var fits []int
	for c := range 6 {
		next := slices.Clone(bind)
		next[v] = c
		if plainStill(list, body, next) {
			fits = append(fits, c)
		}
	}
	return fits
}

// plainLeaps goes through the variables of an order one behind the other, and keeps all that they may have till then.
func plainLeaps(list []impl.Fact, body []impl.Lit, order []int) ([][]int, int) {
	nodes := 0
	var binds [][]int
	if plainStill(list, body, nothing()) {
		binds = append(binds, nothing())
	}
	for _, v := range order {
		var longer [][]int
		for _, bind := range binds {
			for _, c := range plainLeapFits(list, body, bind, v) {
				next := slices.Clone(bind)
				next[v] = c
				longer = append(longer, next)
			}
		}
		nodes += len(longer)
		binds = longer
	}
	slices.SortFunc(binds, slices.Compare[[]int])
	return binds, nodes
}
