package tests

import (
	"math"
	"slices"
	"testing"

	"loop.example/wholerules/impl"
)

func TestFreshSolutions(t *testing.T) {
	edges := []impl.Fact{fact(2, 0, 1), fact(2, 1, 2)}
	more := []impl.Fact{fact(2, 2, 3)}
	path := []impl.Lit{yes(2, varW, varX), yes(2, varX, varY)}
	mixed := []impl.Fact{fact(2, 3, 1), fact(1, 4), fact(0), fact(2, 3, 1), fact(1, 0), fact(9, 1), fact(-1, 2), fact(1, 4, 4), fact(1)}
	cases := []struct {
		name  string
		list  []impl.Fact
		fresh []impl.Fact
		body  []impl.Lit
		want  [][]int
	}{
		{"an edge that is new", edges[:1], edges[1:], path[:1], [][]int{{1, 2, -1, -1}}},
		{"no facts at all", nil, nil, path, nil},
		{"nothing new", edges, nil, path, nil},
		{"all is new", nil, edges, path, [][]int{{0, 1, 2, -1}}},
		{"the last atom is new", edges, more, path, [][]int{{1, 2, 3, -1}}},
		{"the first atom is new", more, edges[1:], path, [][]int{{1, 2, 3, -1}}},
		{"both are new", edges[:1], append(slices.Clone(edges[1:]), more...), path, [][]int{{0, 1, 2, -1}, {1, 2, 3, -1}}},
		{"the one between is new", append(slices.Clone(edges[:1]), more...), edges[1:], path, [][]int{{0, 1, 2, -1}, {1, 2, 3, -1}}},
		{"one fact for both atoms", edges, []impl.Fact{fact(2, 4, 4)}, path, [][]int{{4, 4, 4, -1}}},
		{"an atom twice", edges, more, []impl.Lit{path[0], path[0]}, [][]int{{2, 3, -1, -1}}},
		{"in both lists, and so new", edges, edges[1:], path[:1], [][]int{{1, 2, -1, -1}}},
		{"in both lists, for either atom", append(slices.Clone(edges), more...), edges[1:], path, [][]int{{0, 1, 2, -1}, {1, 2, 3, -1}}},
		{"both lists are the same", edges, edges, path, [][]int{{0, 1, 2, -1}}},
		{"both lists are the same, four atoms", edges, edges, []impl.Lit{path[0], path[0], path[1], path[1]}, [][]int{{0, 1, 2, -1}}},
		{"out of order, and twice", []impl.Fact{fact(2, 1, 5), fact(2, 0, 1), fact(2, 1, 5)}, []impl.Fact{fact(2, 5, 5), fact(2, 1, 2), fact(2, 5, 5)}, path,
			[][]int{{0, 1, 2, -1}, {1, 5, 5, -1}, {5, 5, 5, -1}}},
		{"by the first number, not by the atom that is new", []impl.Fact{fact(1, 0), fact(1, 4)}, []impl.Fact{fact(1, 2)}, []impl.Lit{yes(1, varX), yes(1, varW)},
			[][]int{{0, 2, -1, -1}, {2, 0, -1, -1}, {2, 2, -1, -1}, {2, 4, -1, -1}, {4, 2, -1, -1}}},
		{"no body", edges, more, nil, nil},
		{"no atom that is to hold", edges, more, []impl.Lit{same(1, 1), less(0, 5), no(2, 5, 5)}, nil},
		{"denied, and new, is not used", nil, more, []impl.Lit{no(2, 3, 2)}, nil},
		{"denied among the new facts", edges, more, []impl.Lit{yes(2, varW, varX), no(2, 2, 3)}, nil},
		{"denied among the old facts", edges, more, []impl.Lit{yes(2, varW, varX), no(2, 0, 1)}, nil},
		{"denied in neither", edges, more, []impl.Lit{no(2, varX, varW), yes(2, varW, varX)}, [][]int{{2, 3, -1, -1}}},
		{"denied, and in the other list", []impl.Fact{fact(1, 2), fact(1, 4)}, []impl.Fact{fact(3, 2)}, []impl.Lit{yes(1, varW), no(3, varW)}, nil},
		{"denied, ahead of the atom that is new", []impl.Fact{fact(3, 2), fact(1, 2)}, []impl.Fact{fact(1, 4), fact(3, 5)}, []impl.Lit{no(3, varW), yes(1, varW)}, [][]int{{4, -1, -1, -1}}},
		{"denied, ahead, in the new facts alone", nil, []impl.Fact{fact(1, 4), fact(1, 5), fact(3, 5)}, []impl.Lit{no(3, varW), yes(1, varW)}, [][]int{{4, -1, -1, -1}}},
		{"denied, ahead, in both lists", []impl.Fact{fact(3, 5)}, []impl.Fact{fact(1, 4), fact(1, 5), fact(3, 5)}, []impl.Lit{no(3, varW), yes(1, varW)}, [][]int{{4, -1, -1, -1}}},
		{"compared", edges, append(slices.Clone(more), fact(2, 3, 0)), []impl.Lit{less(varW, varX), yes(2, varW, varX), same(varX, 3)}, [][]int{{2, 3, -1, -1}}},
		{"compared with one term", edges, more, []impl.Lit{yes(2, varW, varX), same(1)}, nil},
		{"without variables, new", edges, more, []impl.Lit{yes(2, 2, 3)}, [][]int{nothing()}},
		{"without variables, old", edges, more, []impl.Lit{yes(2, 0, 1)}, nil},
		{"without variables, old, and another one new", edges, more, []impl.Lit{yes(2, varZ, 3), yes(2, 0, 1)}, [][]int{{-1, -1, -1, 2}}},
		{"without variables, new, for all others", edges, []impl.Fact{fact(0)}, []impl.Lit{yes(2, varZ, varX), yes(0)}, [][]int{{-1, 1, -1, 0}, {-1, 2, -1, 1}}},
		{"a new fact of another predicate", edges, []impl.Fact{fact(4, 2, 3)}, path, nil},
		{"a new fact with other places", edges, []impl.Fact{fact(2, 2), fact(2, 2, 3, 3)}, path[:1], nil},
		{"predicates below 0, and past the most", mixed, []impl.Fact{fact(-1, 0), fact(77)}, []impl.Lit{yes(-1, varX), yes(9, varW), no(77, varX)}, [][]int{{1, 0, -1, -1}}},
		{"facts of no places", mixed, []impl.Fact{fact(1)}, []impl.Lit{yes(1), yes(1, varY)}, [][]int{{-1, -1, 0, -1}, {-1, -1, 4, -1}}},
		{"four atoms, each new in turn", chainOf(2, 5)[:2], chainOf(2, 5)[2:], []impl.Lit{yes(2, varW, varX), yes(2, varX, varY), yes(2, varY, varZ), yes(2, varZ, 5)}, [][]int{{1, 2, 3, 4}}},
	}
	for _, c := range cases {
		if got := impl.FreshSolutions(c.list, c.fresh, c.body); !sameLists(got, c.want) {
			t.Errorf("%s: FreshSolutions(%v, %v, %v) = %v", c.name, c.list, c.fresh, c.body, got)
		}
	}
}

func TestFreshSolutionsOfWhatIsNone(t *testing.T) {
	list, fresh := impl.AllFacts(1, 1)[:3], impl.AllFacts(1, 1)[2:]
	unsafe := [][]impl.Lit{
		{yes(1, 2), no(1, varW)}, {yes(1, 2), same(varW, 1)}, {yes(1, varX), less(varX, varY)}, {yes(1, 2), yes(1, 3), yes(1, 3), yes(1, 3), yes(1, 3)},
		{yes(1, varW), {Kind: 4, Atom: atom(1, varW)}}, {yes(1, varW), {Kind: -1, Atom: atom(1, 1)}}, {yes(1, 6), yes(1, 3)}, {yes(1, 3), no(1, -5)}, {yes(1, 3), same(6, 6)}, {yes(1, 3), less(0, 6)},
	}
	for _, body := range unsafe {
		if got := impl.FreshSolutions(list, fresh, body); len(got) != 0 {
			t.Errorf("FreshSolutions(.., %v) = %v", body, got)
		}
	}
	for _, n := range noConstants() {
		for _, f := range []impl.Fact{fact(1, n), fact(7, n), fact(1, 2, n), fact(-5, n, 0)} {
			for _, body := range [][]impl.Lit{{yes(1, varW)}, {yes(1, 4), same(1, 1)}, {yes(1, 3), no(2, 1, 1)}} {
				if len(impl.FreshSolutions(list, fresh, body)) == 0 {
					t.Fatalf("FreshSolutions(.., %v) is nothing here", body)
				}
				for _, lists := range [][2][]impl.Fact{{append([]impl.Fact{f}, list...), fresh}, {append(slices.Clone(list), f), fresh}, {list, append([]impl.Fact{f}, fresh...)}, {list, append(slices.Clone(fresh), f)}} {
					if got := impl.FreshSolutions(lists[0], lists[1], body); len(got) != 0 {
						t.Errorf("FreshSolutions(%v, %v, %v) = %v", lists[0], lists[1], body, got)
					}
				}
			}
		}
	}
}

// Many bodies and pairs of lists are held against a model that tries all constants, and keeps what uses a new fact.
func TestFreshSolutionsAgainstPlainOnes(t *testing.T) {
	pairs := freshPairs()
	for i, body := range manyBodies() {
		for j := i % 3; j < len(pairs); j += 3 {
			list, fresh := pairs[j][0], pairs[j][1]
			got, want := impl.FreshSolutions(list, fresh, body), plainFreshSolutions(list, fresh, body)
			if !sameLists(got, want) {
				t.Fatalf("FreshSolutions(%v, %v, %v) = %v, want %v", list, fresh, body, got, want)
			}
		}
	}
}

// Of a body that denies nothing, the solutions in the old facts and those that use a new one are all there are, and none is both.
func TestFreshSolutionsAreTheOthers(t *testing.T) {
	for _, r := range growRules() {
		for _, pair := range freshPairs() {
			old := impl.FactsLess(pair[0], pair[1])
			got := append(impl.Solutions(old, r.Body), impl.FreshSolutions(pair[0], pair[1], r.Body)...)
			slices.SortFunc(got, slices.Compare[[]int])
			if want := impl.Solutions(slices.Concat(pair[0], pair[1]), r.Body); !sameLists(got, want) {
				t.Fatalf("with old and new facts %v has the solutions %v, want %v", r.Body, got, want)
			}
		}
	}
}

func TestFreshSolutionsOfAllFacts(t *testing.T) {
	all := impl.AllFacts(2, 2)
	body := []impl.Lit{yes(2, varW, varX), yes(2, varX, varY), yes(2, varY, varZ), yes(2, varZ, varW)}
	for _, count := range []int{0, 1, 18, 35, 36} {
		old := impl.Solutions(all[count:], body)
		got := impl.FreshSolutions(all[count:], all[:count], body)
		if len(got)+len(old) != 6*6*6*6 {
			t.Errorf("%d solutions use one of %d new facts, and %d none", len(got), count, len(old))
		}
		if !slices.IsSortedFunc(got, slices.Compare[[]int]) {
			t.Errorf("solutions that use one of %d new facts are not in order", count)
		}
		if again := impl.FreshSolutions(all, all[:count], body); !sameLists(again, got) {
			t.Errorf("%d solutions use one of %d new facts that are old ones too", len(again), count)
		}
	}
}

func TestFreshFacts(t *testing.T) {
	edges := []impl.Fact{fact(2, 0, 1), fact(2, 1, 0), fact(2, 1, 2), fact(2, 2, 3)}
	ways := [][]impl.Fact{
		{fact(4, 0, 1), fact(4, 1, 0), fact(4, 1, 2), fact(4, 2, 3)},
		{fact(4, 0, 0), fact(4, 0, 2), fact(4, 1, 1), fact(4, 1, 3)},
		{fact(4, 0, 3)},
	}
	apart := append(slices.Clone(ways), []impl.Fact{fact(3, 2)}, []impl.Fact{fact(1, 0), fact(1, 1), fact(1, 3)})
	chain := linked(4, linkNo(0, 1), linkNo(1, 2), linkNo(2, 3))
	steps := []impl.Rule{rule(atom(1, 1), yes(1, 0)), rule(atom(1, 2), yes(1, 1)), rule(atom(1, 3), yes(1, 2))}
	cases := []struct {
		name string
		p    impl.Program
		db   []impl.Fact
		more [][]impl.Fact // what each round brings behind what is given
	}{
		{"nothing at all", impl.Program{}, nil, nil},
		{"no rules", growing(), []impl.Fact{fact(0), fact(4, 5, 5)}, nil},
		{"no facts", growing(wayRules()...), nil, nil},
		{"no facts fit", growing(apartRules()...), []impl.Fact{fact(0)}, nil},
		{"nothing given, and a rule without a body", growing(rule(atom(3, 2))), nil, [][]impl.Fact{{fact(3, 2)}}},
		{"of the document", growing(wayRules()...), chainOf(2, 2), [][]impl.Fact{{fact(4, 0, 1), fact(4, 1, 2)}, {fact(4, 0, 2)}}},
		{"all is given", growing(wayRules()...), append(slices.Clone(edges[:1]), fact(4, 0, 1)), nil},
		{"some is given", growing(wayRules()...), append(chainOf(2, 2), fact(4, 0, 1), fact(4, 0, 2)), [][]impl.Fact{{fact(4, 1, 2)}}},
		{"a head in its own body", growing(rule(atom(4, varW, varX), yes(4, varW, varX))), []impl.Fact{fact(4, 1, 0)}, nil},
		{"a rule does not see its own round", growing(steps...), []impl.Fact{fact(1, 0)}, [][]impl.Fact{{fact(1, 1)}, {fact(1, 2)}, {fact(1, 3)}}},
		{"nor in the other order", growing(reversed(steps)...), []impl.Fact{fact(1, 0)}, [][]impl.Fact{{fact(1, 1)}, {fact(1, 2)}, {fact(1, 3)}}},
		{"in order, each once, whatever the rules' order is", growing(rule(atom(4, varX, varW), yes(2, varW, varX)), rule(atom(3, 4)), rule(atom(3, varX), yes(2, varW, varX)), rule(atom(0)), rule(atom(3, 4))), edges,
			[][]impl.Fact{{fact(0), fact(3, 0), fact(3, 1), fact(3, 2), fact(3, 3), fact(3, 4), fact(4, 0, 1), fact(4, 1, 0), fact(4, 2, 1), fact(4, 3, 2)}}},
		{"layer by layer", growing(apartRules()...), edges, apart},
		{"layer by layer, rules in the other order", growing(reversed(apartRules())...), edges, apart},
		{"a layer brings nothing", growing(apartRules()...), append(slices.Clone(edges), fact(3, 2)), append(slices.Clone(ways), apart[4])},
		{"the last layer brings nothing", growing(apartRules()...), append([]impl.Fact{fact(1, 0), fact(1, 1), fact(1, 3)}, edges...), apart[:4]},
		{"the first layer brings nothing", growing(apartRules()...), append([]impl.Fact{fact(1, 5)}, union(edges, slices.Concat(ways...))...), apart[3:]},
		{"no layer brings anything", growing(apartRules()...), union(edges, slices.Concat(apart...)), nil},
		{"denials alone", chain, nil, [][]impl.Fact{{fact(2)}, {fact(0)}}},
		{"denials of what is given", chain, []impl.Fact{fact(3)}, [][]impl.Fact{{fact(1)}}},
		{"a given fact that would not be said", chain, []impl.Fact{fact(1), fact(3)}, nil},
		{"a rule without a body waits for its layer", growing(rule(atom(3, 5)), rule(atom(3, varW), yes(1, varW), no(4, 0, 2)), wayRules()[0], wayRules()[1]), chainOf(2, 2),
			[][]impl.Fact{{fact(4, 0, 1), fact(4, 1, 2)}, {fact(4, 0, 2)}, {fact(3, 5)}}},
		{"one layer for all that it does not have to deny", growing(rule(atom(3, varW), yes(2, varW, varX)), rule(atom(1, varW), yes(3, varW)), wayRules()[0]), edges[:1], [][]impl.Fact{{fact(3, 0), fact(4, 0, 1)}, {fact(1, 0)}}},
		{"rounds of a layer over what is not denied", growing(rule(atom(3, 3)), rule(atom(1, 0), no(3, 0)), rule(atom(1, varX), no(3, varX), yes(1, varW), yes(2, varW, varX))), edges,
			[][]impl.Fact{{fact(3, 3)}, {fact(1, 0)}, {fact(1, 1)}, {fact(1, 2)}}},
		{"two that ask each other in a layer that denies", growing(rule(atom(3, varX), yes(1, varX), no(0)), rule(atom(1, varX), yes(3, varW), yes(2, varW, varX), no(0))), append([]impl.Fact{fact(1, 1)}, edges...),
			[][]impl.Fact{{fact(3, 1)}, {fact(1, 0), fact(1, 2)}, {fact(3, 0), fact(3, 2)}, {fact(1, 3)}, {fact(3, 3)}}},
		{"an old and a new fact", growing(rule(atom(3, 0), yes(0)), rule(atom(1, varW), yes(1, varX), yes(3, varW)), rule(atom(4, varX, varW), yes(3, varW), yes(1, varX))),
			[]impl.Fact{fact(0), fact(1, 5)}, [][]impl.Fact{{fact(3, 0)}, {fact(1, 0), fact(4, 5, 0)}, {fact(4, 0, 0)}}},
	}
	for _, c := range cases {
		checkFresh(t, c.name, c.p, c.db, append([][]impl.Fact{c.db}, c.more...))
		for _, f := range allOf(c.p.Arity) {
			want := slices.IndexFunc(append([][]impl.Fact{c.db}, c.more...), func(list []impl.Fact) bool { return plainHas(list, f) })
			if got := impl.StageOf(c.p, c.db, f); got != want {
				t.Errorf("%s: StageOf(%v) = %d, want %d", c.name, f, got, want)
			}
		}
	}
}

// checkFresh checks what FreshFacts, ModelFresh and Model tell, and StageOf for a fact of each list, or of some of many ones, the
// lists being known.
func checkFresh(t *testing.T, name string, p impl.Program, db []impl.Fact, want [][]impl.Fact) {
	t.Helper()
	if got, ok := impl.FreshFacts(p, db); !ok || !sameRounds(got, want) {
		t.Fatalf("%s: FreshFacts(%v, %v) = %v, %v, want %v", name, p, db, got, ok, want)
	}
	all := union(want[0], slices.Concat(want[1:]...))
	if got, ok := impl.ModelFresh(p, db); !ok || !sameFacts(got, all) {
		t.Fatalf("%s: ModelFresh(%v, %v) = %v, %v, want %v", name, p, db, got, ok, all)
	}
	if got, ok := impl.Model(p, db); !ok || !sameFacts(got, all) {
		t.Fatalf("%s: Model(%v, %v) = %v, %v, want %v", name, p, db, got, ok, all)
	}
	for stage := 0; stage < len(want); stage += 1 + len(want)/50 {
		if len(want[stage]) == 0 {
			continue
		}
		f := want[stage][stage%len(want[stage])]
		if got := impl.StageOf(p, db, f); got != stage {
			t.Fatalf("%s: StageOf(%v, %v, %v) = %d, want %d", name, p, db, f, got, stage)
		}
	}
}

func TestStageOfWhatIsNoFact(t *testing.T) {
	p := growing(append(apartRules(), rule(atom(0)), rule(atom(1, 1), yes(0)))...)
	db := chainOf(2, 2)
	for _, f := range []impl.Fact{
		fact(2, 1), fact(2, 0, 1, 0), fact(2), fact(0, 0), fact(1), fact(4, 0), fact(5, 0, 1), fact(-1), fact(24), fact(1, 6), fact(1, -1), fact(1, math.MaxInt),
		fact(4, 0, 6), fact(4, -1, 7), fact(math.MaxInt, 0), fact(math.MinInt, 0), fact(4, 2, 0),
	} {
		if got := impl.StageOf(p, db, f); got != -1 {
			t.Errorf("StageOf(%v) = %d", f, got)
		}
	}
	if got := impl.StageOf(impl.Program{}, nil, impl.Fact{}); got != -1 {
		t.Errorf("StageOf of nothing = %d", got)
	}
}

func TestFreshFactsOfWhatIsNone(t *testing.T) {
	for name, p := range noPrograms() {
		checkNoFresh(t, name, p, nil)
		checkNoFresh(t, name, p, []impl.Fact{fact(1, 2)})
	}
	for name, list := range noLists() {
		for _, p := range []impl.Program{growing(), growing(rule(atom(3, varW), yes(1, varW), no(0)), rule(atom(1, 2)))} {
			checkNoFresh(t, name, p, list)
		}
	}
	checkNoFresh(t, "facts of no predicates", impl.Program{}, []impl.Fact{{}})
	for _, p := range noLayers() {
		checkNoFresh(t, "without layers", p, []impl.Fact{fact(1, 2), fact(2, 1, 2), fact(2, 2, 3)})
		checkNoFresh(t, "without layers", p, nil)
	}
}

func checkNoFresh(t *testing.T, name string, p impl.Program, db []impl.Fact) {
	t.Helper()
	if got, ok := impl.FreshFacts(p, db); ok || len(got) != 0 {
		t.Errorf("%s: FreshFacts = %v, %v", name, got, ok)
	}
	if got, ok := impl.ModelFresh(p, db); ok || len(got) != 0 {
		t.Errorf("%s: ModelFresh = %v, %v", name, got, ok)
	}
	for _, f := range append(slices.Clone(db), fact(0), fact(1, 2), fact(3, 2)) {
		if got := impl.StageOf(p, db, f); got != -1 {
			t.Errorf("%s: StageOf(%v) = %d", name, f, got)
		}
	}
}

// The seventh promise, for programs of a table: what is found of new facts alone is what a model brings that asks, round by
// round and layer by layer, all rules of all facts.
func TestFreshFactsAgainstPlainOnes(t *testing.T) {
	table := modelRules()
	next := numbersFrom(7)
	layered := 0
	for range 700 {
		p := growing()
		for range 2 + next(5) {
			p.Rules = append(p.Rules, table[next(len(table))])
		}
		layers, ok := impl.LayersOf(p)
		for _, db := range growLists() {
			if !ok {
				checkNoFresh(t, "without layers", p, db)
				continue
			}
			layered++
			checkFresh(t, "with layers", p, db, plainFresh(p, db, layers))
		}
	}
	if layered < 600 || layered > 2000 {
		t.Errorf("%d with layers", layered)
	}
}

// The seventh promise, for all programs of two predicates without places, and all of three in which none asks another one in
// both ways, and all facts that may be given.
func TestFreshFactsOfFewPredicates(t *testing.T) {
	check := func(preds int, kinds int) {
		for n := range power(kinds, preds*preds) {
			p := programOfNumber(preds, kinds, n)
			layers, ok := impl.LayersOf(p)
			if !ok {
				checkNoFresh(t, "without layers", p, nil)
				continue
			}
			for _, q := range []impl.Program{p, literalByLiteral(p)} {
				for m := range 1 << preds {
					db := pick(allOf(q.Arity), m)
					checkFresh(t, "few predicates", q, db, plainFresh(q, db, layers))
				}
			}
		}
	}
	check(2, 4)
	check(3, 3)
}

// The rounds of a program that denies nothing are those of chapter 4.
func TestFreshFactsAreWhatRoundsBring(t *testing.T) {
	table := growRules()
	for i := range table {
		p := growing(table[i], table[(i+1)%len(table)], table[(i+4)%len(table)], table[(i+9)%len(table)])
		for _, db := range growLists() {
			lists, ok := impl.FreshFacts(p, db)
			rounds := impl.Rounds(p, db)
			if !ok || len(lists) != len(rounds) {
				t.Fatalf("FreshFacts(%v, %v) = %v, %v", p, db, lists, ok)
			}
			var ahead []impl.Fact
			for round, list := range lists {
				if !sameFacts(list, impl.FactsLess(rounds[round], ahead)) {
					t.Fatalf("FreshFacts(%v, %v) = %v, but rounds are %v", p, db, lists, rounds)
				}
				ahead = rounds[round]
			}
			for _, f := range allOf(p.Arity) {
				if got, want := impl.StageOf(p, db, f), impl.RoundOf(p, db, f); got != want {
					t.Fatalf("StageOf(%v, %v, %v) = %d, but RoundOf %d", p, db, f, got, want)
				}
			}
		}
	}
}

func TestFreshFactsOfManyRounds(t *testing.T) {
	cases := []struct {
		name     string
		p        impl.Program
		counters int
		step     int // from one counter's predicate to the next one's
	}{
		{"one layer", counting(20), 20, 1},
		{"many layers", countingByLayers(11), 11, 2},
	}
	for _, c := range cases {
		begin := fact(1, 0, 0)
		db := append(chainOf(0, 5), begin)
		want := [][]impl.Fact{db}
		for pred := range c.counters {
			for _, f := range impl.AllFacts(1+pred*c.step, 2) {
				if !sameFact(f, begin) {
					want = append(want, []impl.Fact{f})
				}
			}
		}
		if len(want) != c.counters*36 {
			t.Fatalf("%s: %d lists", c.name, len(want))
		}
		checkFresh(t, c.name, c.p, db, want)
	}
}

func TestFreshFactsOfAllLayers(t *testing.T) {
	p := denyingAll()
	db := impl.AllFacts(0, 2)
	want := [][]impl.Fact{db}
	for pred := 2; pred < impl.MaxPreds; pred += 2 {
		want = append(want, impl.AllFacts(pred, 2))
	}
	checkFresh(t, "all layers", p, db, want)
	p.Rules = append(p.Rules, p.Rules[0])
	checkNoFresh(t, "a rule too many", p, db)
}

func TestLeastMore(t *testing.T) {
	ways := growing(wayRules()...)
	edges := chainOf(2, 3)
	least := append(chainOf(2, 2), fact(4, 0, 1), fact(4, 0, 2), fact(4, 1, 2))
	pair := growing(rule(atom(4, varW, varX), yes(1, varW), yes(3, varX)))
	twice := growing(rule(atom(4, varW, varX), yes(1, varW), yes(1, varX)))
	begun := growing(rule(atom(3, 2)), rule(atom(0), yes(3, varW), yes(1, varW)))
	cases := []struct {
		name   string
		p      impl.Program
		least  []impl.Fact
		more   []impl.Fact
		brings []impl.Fact // what comes besides the facts of both lists
	}{
		{"nothing at all", impl.Program{}, nil, nil, nil},
		{"no rules", growing(), []impl.Fact{fact(1, 3)}, []impl.Fact{fact(0), fact(4, 5, 5)}, nil},
		{"no rules, in both lists", growing(), []impl.Fact{fact(0), fact(1, 3)}, []impl.Fact{fact(0), fact(4, 5, 5)}, nil},
		{"nothing more", ways, least, nil, nil},
		{"nothing there", ways, nil, edges, []impl.Fact{fact(4, 0, 1), fact(4, 0, 2), fact(4, 0, 3), fact(4, 1, 2), fact(4, 1, 3), fact(4, 2, 3)}},
		{"an edge at the end", ways, least, edges[2:], []impl.Fact{fact(4, 0, 3), fact(4, 1, 3), fact(4, 2, 3)}},
		{"an edge at the beginning", ways, least, []impl.Fact{fact(2, 5, 0)}, []impl.Fact{fact(4, 5, 0), fact(4, 5, 1), fact(4, 5, 2)}},
		{"an edge between", ways, []impl.Fact{fact(2, 0, 1), fact(2, 2, 3), fact(4, 0, 1), fact(4, 2, 3)}, edges[1:2], []impl.Fact{fact(4, 0, 2), fact(4, 0, 3), fact(4, 1, 2), fact(4, 1, 3)}},
		{"an edge that is there", ways, least, edges[1:2], nil},
		{"all is there", ways, least, least, nil},
		{"an edge that is there, and one that is not", ways, least, edges[1:], []impl.Fact{fact(4, 0, 3), fact(4, 1, 3), fact(4, 2, 3)}},
		{"a way", ways, least, []impl.Fact{fact(4, 2, 5)}, []impl.Fact{fact(4, 0, 5), fact(4, 1, 5)}},
		{"a way that leads nowhere", ways, least, []impl.Fact{fact(4, 5, 5)}, nil},
		{"an edge and its ways", ways, least, []impl.Fact{fact(2, 2, 3), fact(4, 0, 3), fact(4, 1, 3), fact(4, 2, 3)}, nil},
		{"facts of other predicates", ways, least, []impl.Fact{fact(0), fact(1, 2), fact(3, 2)}, nil},
		{"closed, though not the least of anything", ways, append(slices.Clone(least), fact(4, 3, 3), fact(4, 5, 5)), edges[2:], []impl.Fact{fact(4, 0, 3), fact(4, 1, 3), fact(4, 2, 3)}},
		{"the first atom is new", pair, []impl.Fact{fact(3, 4)}, []impl.Fact{fact(1, 2)}, []impl.Fact{fact(4, 2, 4)}},
		{"the second atom is new", pair, []impl.Fact{fact(1, 2)}, []impl.Fact{fact(3, 4)}, []impl.Fact{fact(4, 2, 4)}},
		{"both atoms are new", pair, nil, []impl.Fact{fact(1, 2), fact(3, 4)}, []impl.Fact{fact(4, 2, 4)}},
		{"each with the other, old or new", twice, []impl.Fact{fact(1, 2), fact(4, 2, 2)}, []impl.Fact{fact(1, 0), fact(1, 3)},
			[]impl.Fact{fact(4, 0, 0), fact(4, 0, 2), fact(4, 0, 3), fact(4, 2, 0), fact(4, 2, 3), fact(4, 3, 0), fact(4, 3, 2), fact(4, 3, 3)}},
		{"a rule without a body", begun, []impl.Fact{fact(3, 2)}, []impl.Fact{fact(1, 2), fact(1, 3)}, []impl.Fact{fact(0)}},
		{"many rounds", growing(rule(atom(1, varX), yes(1, varW), yes(2, varW, varX)), rule(atom(0), yes(1, 5))), chainOf(2, 5), []impl.Fact{fact(1, 0)},
			[]impl.Fact{fact(0), fact(1, 1), fact(1, 2), fact(1, 3), fact(1, 4), fact(1, 5)}},
	}
	for _, c := range cases {
		want := union(union(c.least, c.more), c.brings)
		if got := impl.LeastMore(c.p, c.least, c.more); !sameFacts(got, want) {
			t.Errorf("%s: LeastMore = %v, want %v", c.name, got, want)
		}
		if got := impl.Least(c.p, union(c.least, c.more)); !sameFacts(got, want) {
			t.Errorf("%s: Least = %v, want %v", c.name, got, want)
		}
	}
}

func TestLeastMoreOfWhatIsNone(t *testing.T) {
	one := []impl.Fact{fact(1, 2)}
	for name, p := range noPrograms() {
		checkNoMore(t, name, p, nil, nil)
		checkNoMore(t, name, p, nil, one)
		checkNoMore(t, name, p, union(one, []impl.Fact{fact(3, 2)}), one)
	}
	for name, list := range noLists() {
		for _, p := range []impl.Program{growing(), growing(rule(atom(3, varW), yes(1, varW)))} {
			checkNoMore(t, name, p, list, nil)
			checkNoMore(t, name, p, list, one)
			checkNoMore(t, name, p, nil, list)
			checkNoMore(t, name, p, union(one, []impl.Fact{fact(3, 2)}), list)
		}
	}
	checkNoMore(t, "facts of no predicates", impl.Program{}, []impl.Fact{{}}, nil)
	checkNoMore(t, "more of no predicates", impl.Program{}, nil, []impl.Fact{{}})
	for _, denying := range []impl.Rule{rule(atom(0), no(1, 5)), rule(atom(0), yes(4, varW, varX), no(2, varW, varX)), rule(atom(0), no(0)), rule(atom(1, 2), no(4, 0, 0))} {
		checkNoMore(t, "denying", growing(denying), nil, one)
		checkNoMore(t, "denying", growing(denying), []impl.Fact{fact(0), fact(1, 2)}, []impl.Fact{fact(3, 1)})
	}
	ways := growing(wayRules()...)
	checkNoMore(t, "no ways", ways, chainOf(2, 2), chainOf(2, 3))
	checkNoMore(t, "not all ways", ways, append(chainOf(2, 2), fact(4, 0, 1), fact(4, 1, 2)), nil)
	checkNoMore(t, "not all ways, and the others more", ways, append(chainOf(2, 2), fact(4, 0, 1), fact(4, 1, 2)), []impl.Fact{fact(4, 0, 2)})
	checkNoMore(t, "without what has no body", growing(rule(atom(3, 2))), nil, one)
	checkNoMore(t, "without what has no body, and that more", growing(rule(atom(3, 2))), nil, []impl.Fact{fact(3, 2)})
}

func checkNoMore(t *testing.T, name string, p impl.Program, least, more []impl.Fact) {
	t.Helper()
	if got := impl.LeastMore(p, least, more); len(got) != 0 {
		t.Errorf("%s: LeastMore = %v", name, got)
	}
}

// The seventh promise, for all sets of the facts of a few predicates: to what is closed there may be more, and to nothing else.
func TestLeastMoreOfAllSets(t *testing.T) {
	all := fewOfAll()
	for _, p := range fewPrograms() {
		closed := 0
		for n := range 1 << len(all) {
			set := pick(all, n)
			is := within(plainConsequences(p, set), set)
			if is {
				closed++
			}
			for _, more := range [][]impl.Fact{nil, all[:2], {all[2], all[6]}, {all[0], all[3], all[9]}, {all[1], all[5], all[8]}, all[4:]} {
				var want []impl.Fact
				if is {
					rounds := plainRounds(p, union(set, more))
					want = rounds[len(rounds)-1]
				}
				if got := impl.LeastMore(p, set, more); !sameFacts(got, want) {
					t.Fatalf("LeastMore(%v, %v, %v) = %v, want %v", p, set, more, got, want)
				}
			}
		}
		if closed == 0 {
			t.Errorf("nothing is closed for %v", p)
		}
	}
}

// Programs of one to three rules of a table are held against a model that asks all rules of all facts of both lists.
func TestLeastMoreAgainstPlainOnes(t *testing.T) {
	table := growRules()
	lists := append(growLists(), nil, []impl.Fact{fact(1, 4), fact(3, 4)}, []impl.Fact{fact(2, 5, 5), fact(4, 0, 4), fact(4, 4, 2)})
	for i := range table {
		for j := range table {
			p := growing(table[i], table[j], table[(i+2*j)%len(table)])
			for k, db := range lists {
				more := lists[(i+j+k)%len(lists)]
				rounds := plainRounds(p, union(db, more))
				want := rounds[len(rounds)-1]
				least := impl.Least(p, db)
				if got := impl.LeastMore(p, least, more); !sameFacts(got, want) {
					t.Fatalf("LeastMore(%v, %v, %v) = %v, want %v", p, least, more, got, want)
				}
				if got := impl.LeastMore(p, want, db); !sameFacts(got, want) {
					t.Fatalf("LeastMore(%v, %v, %v) = %v", p, want, db, got)
				}
			}
		}
	}
}

func TestLeastMoreOfManyRounds(t *testing.T) {
	p := counting(20)
	begin := []impl.Fact{fact(1, 0, 0)}
	want := impl.Least(p, union(chainOf(0, 5), begin))
	if got := impl.LeastMore(p, chainOf(0, 5), begin); !sameFacts(got, want) || len(got) != 5+20*36 {
		t.Errorf("%d facts, want %d", len(got), len(want))
	}
	all := allOf(p.Arity)
	if got := impl.LeastMore(p, all, want); !sameFacts(got, all) {
		t.Errorf("%d facts of all", len(got))
	}
	if got := impl.LeastMore(p, want, all); !sameFacts(got, all) {
		t.Errorf("%d facts, and then all", len(got))
	}
}

func TestDeltasNilIsEmpty(t *testing.T) {
	none := [][]impl.Fact{nil, {}}
	for _, p := range []impl.Program{{}, {Arity: []int{}, Rules: []impl.Rule{}}} {
		for _, db := range none {
			if got, ok := impl.FreshFacts(p, db); !ok || len(got) != 1 || len(got[0]) != 0 {
				t.Errorf("FreshFacts of nothing = %v, %v", got, ok)
			}
			if got, ok := impl.ModelFresh(p, db); !ok || len(got) != 0 {
				t.Errorf("ModelFresh of nothing = %v, %v", got, ok)
			}
			for _, more := range none {
				if got := impl.LeastMore(p, db, more); len(got) != 0 {
					t.Errorf("LeastMore of nothing = %v", got)
				}
				for _, body := range [][]impl.Lit{nil, {}} {
					if got := impl.FreshSolutions(db, more, body); len(got) != 0 {
						t.Errorf("FreshSolutions of nothing = %v", got)
					}
				}
			}
		}
	}
	for _, args := range [][]int{nil, {}} {
		p := programWith([]int{0, 0}, impl.Rule{Head: impl.Atom{Pred: 1, Args: args}, Body: []impl.Lit{{Atom: impl.Atom{Args: args}}}})
		for _, others := range [][]int{nil, {}} {
			db := []impl.Fact{{Args: others}}
			checkFresh(t, "no places", p, db, [][]impl.Fact{{fact(0)}, {fact(1)}})
			if got := impl.StageOf(p, db, impl.Fact{Pred: 1, Args: args}); got != 1 {
				t.Errorf("StageOf = %d", got)
			}
			if got := impl.LeastMore(p, nil, db); !sameFacts(got, []impl.Fact{fact(0), fact(1)}) {
				t.Errorf("LeastMore = %v", got)
			}
			if got := impl.FreshSolutions([]impl.Fact{{Args: args}}, db, p.Rules[0].Body); !sameLists(got, [][]int{nothing()}) {
				t.Errorf("FreshSolutions = %v", got)
			}
		}
	}
}

func TestDeltasArgumentsAreNotChanged(t *testing.T) {
	table := modelRules()
	for i := range table {
		p := roomyProgram(growing(table[i], table[(i+1)%len(table)], table[(i+5)%len(table)]))
		for j, list := range growLists() {
			db, more := roomy(list), roomy(growLists()[(i+j)%3])
			least := roomy(impl.Least(p, list))
			f := fact(4, roomyNumbers([]int{0, 2})...)
			wantProgram, wantList, wantMore, wantLeast := programNumbers(p), deepCopy(whole(db)), deepCopy(whole(more)), deepCopy(whole(least))
			impl.FreshFacts(p, db)
			impl.ModelFresh(p, db)
			impl.StageOf(p, db, f)
			impl.LeastMore(p, least, more)
			for _, r := range p.Rules {
				impl.FreshSolutions(db, more, r.Body)
				impl.FreshSolutions(db, db, r.Body)
			}
			if !sameFacts(whole(db), wantList) || !sameFacts(whole(more), wantMore) || !sameFacts(whole(least), wantLeast) {
				t.Fatalf("facts are changed by %v", p)
			}
			if !slices.Equal(programNumbers(p), wantProgram) || !slices.Equal(f.Args[:cap(f.Args)], []int{0, 2, 0, 0, 0}) {
				t.Fatalf("a program or a fact is changed by %v", p)
			}
		}
	}
}

// Lists out of order stay as they are, too.
func TestFreshSolutionsArgumentsAreNotChanged(t *testing.T) {
	bodies := manyBodies()
	for i, pair := range freshPairs() {
		list, fresh := roomy(pair[0]), roomy(pair[1])
		wantList, wantFresh := deepCopy(whole(list)), deepCopy(whole(fresh))
		for j := i; j < len(bodies); j += 17 {
			r := roomyRule(impl.Rule{Head: atom(0), Body: bodies[j]})
			wantRule := ruleNumbers(r)
			impl.FreshSolutions(list, fresh, r.Body)
			if !sameFacts(whole(list), wantList) || !sameFacts(whole(fresh), wantFresh) || !slices.Equal(ruleNumbers(r), wantRule) {
				t.Fatalf("an argument is changed by %v", bodies[j])
			}
		}
	}
}

func TestDeltasShareNothing(t *testing.T) {
	p := roomyProgram(growing(append(apartRules(), rule(atom(0), yes(3, 2)))...))
	db := roomy([]impl.Fact{fact(2, 0, 1), fact(2, 1, 0), fact(2, 1, 2), fact(2, 2, 3), fact(4, 5, 5)})
	ways := roomyProgram(growing(wayRules()...))
	least := roomy(append(chainOf(2, 2), fact(4, 0, 1), fact(4, 0, 2), fact(4, 1, 2)))
	more := roomy([]impl.Fact{fact(1, 5), fact(2, 1, 2), fact(2, 2, 4)})
	numbers := func() []int {
		facts := slices.Concat(whole(db), whole(least), whole(more))
		out := append(programNumbers(p), programNumbers(ways)...)
		for _, f := range facts {
			out = append(append(out, f.Pred), f.Args...)
		}
		return out
	}
	before := numbers()
	unchanged := func() bool { return slices.Equal(numbers(), before) }
	calls := map[string]func() []impl.Fact{
		"ModelFresh":                  func() []impl.Fact { got, _ := impl.ModelFresh(p, db); return got },
		"ModelFresh without rules":    func() []impl.Fact { got, _ := impl.ModelFresh(programWith(p.Arity), db); return got },
		"LeastMore":                   func() []impl.Fact { return impl.LeastMore(ways, least, more) },
		"LeastMore of nothing more":   func() []impl.Fact { return impl.LeastMore(ways, least, nil) },
		"LeastMore without rules":     func() []impl.Fact { return impl.LeastMore(programWith(p.Arity), least, more) },
		"LeastMore of nothing at all": func() []impl.Fact { return impl.LeastMore(programWith(p.Arity), nil, more) },
	}
	checkCallsApart(t, calls, unchanged)
	want := plainFresh(growing(append(apartRules(), rule(atom(0), yes(3, 2)))...), deepCopy(db), []int{1, 2, 0, 1, 0})
	checkListsApart(t, "FreshFacts", func() [][]impl.Fact { got, _ := impl.FreshFacts(p, db); return got }, want)
	given := [][]impl.Fact{deepCopy(db)}
	checkListsApart(t, "FreshFacts without rules", func() [][]impl.Fact { got, _ := impl.FreshFacts(programWith(p.Arity), db); return got }, given)
	checkApart(t, "FreshSolutions", func() [][]int { return impl.FreshSolutions(least, more, ways.Rules[1].Body) }, -77)
	if !unchanged() {
		t.Error("writing to a result changes an argument")
	}
	first, second := impl.FreshSolutions(least, more, ways.Rules[0].Body), impl.FreshSolutions(least, more, ways.Rules[0].Body)
	every := first[:cap(first)]
	for i := range every {
		every[i] = nil
	}
	if !sameLists(second, [][]int{{1, 2, -1, -1}, {2, 4, -1, -1}}) {
		t.Errorf("FreshSolutions = %v", second)
	}
}

// freshPairs returns old and new facts: two lists one beside the other, parts of one list, and parts that share facts.
func freshPairs() [][2][]impl.Fact {
	lists := solvedLists()
	var pairs [][2][]impl.Fact
	for i, list := range lists {
		half, third := len(list)/2, len(list)/3
		pairs = append(pairs,
			[2][]impl.Fact{list, lists[(i+1)%len(lists)]},
			[2][]impl.Fact{list[:half], list[half:]},
			[2][]impl.Fact{list[third:], list[:len(list)-third]})
	}
	return pairs
}

// plainFreshSolutions keeps, of the solutions in both lists, those that make some atom a new fact.
func plainFreshSolutions(list, fresh []impl.Fact, body []impl.Lit) [][]int {
	return slices.DeleteFunc(plainSolutions(slices.Concat(list, fresh), body), func(bind []int) bool {
		return !slices.ContainsFunc(body, func(l impl.Lit) bool {
			values, _ := plainValues(l.Atom.Args, bind)
			return l.Kind == impl.LitYes && plainHas(fresh, impl.Fact{Pred: l.Atom.Pred, Args: values})
		})
	})
}

// plainFresh tells what each round of each layer brings, all rules of the layer being asked of all facts.
func plainFresh(p impl.Program, db []impl.Fact, layers []int) [][]impl.Fact {
	lists := [][]impl.Fact{db}
	facts := db
	for _, part := range partsOf(p, layers) {
		for _, round := range plainRounds(part, facts)[1:] {
			ahead := facts
			lists = append(lists, slices.DeleteFunc(slices.Clone(round), func(f impl.Fact) bool { return plainHas(ahead, f) }))
			facts = round
		}
	}
	return lists
}
