package tests

import (
	"math"
	"slices"
	"testing"

	"loop.example/wholerules/impl"
)

// apartRules are those of a way, 4, over edges, 2, of who has none back to itself, 3, and of who denies that, 1.
func apartRules() []impl.Rule {
	return append(wayRules(),
		rule(atom(3, varW), yes(2, varW, varX), no(4, varW, varW)),
		rule(atom(1, varX), yes(2, varW, varX), no(3, varX)))
}

func TestModel(t *testing.T) {
	edges := []impl.Fact{fact(2, 0, 1), fact(2, 1, 0), fact(2, 1, 2), fact(2, 2, 3)}
	ways := []impl.Fact{fact(4, 0, 0), fact(4, 0, 1), fact(4, 0, 2), fact(4, 0, 3), fact(4, 1, 0), fact(4, 1, 1), fact(4, 1, 2), fact(4, 1, 3), fact(4, 2, 3)}
	document := programWith([]int{1, 1, 1, 1}, rule(atom(3, varW), yes(0, varW), no(2, varW)))
	chain := linked(4, linkNo(0, 1), linkNo(1, 2), linkNo(2, 3))
	cases := []struct {
		name string
		p    impl.Program
		db   []impl.Fact
		more [][]impl.Fact // what each layer brings
	}{
		{"nothing at all", impl.Program{}, nil, nil},
		{"no rules", growing(), []impl.Fact{fact(0), fact(4, 5, 5)}, [][]impl.Fact{nil}},
		{"of the document", document, []impl.Fact{fact(0, 1), fact(2, 1)}, [][]impl.Fact{nil, nil}},
		{"of the document, one not denied", document, []impl.Fact{fact(0, 1), fact(0, 2), fact(2, 1)}, [][]impl.Fact{nil, {fact(3, 2)}}},
		{"one layer of rounds", growing(wayRules()...), edges, [][]impl.Fact{ways}},
		{"who denies ways, and who denies that", growing(apartRules()...), edges, [][]impl.Fact{ways, {fact(3, 2)}, {fact(1, 0), fact(1, 1), fact(1, 3)}}},
		{"rules out of the order of layers", growing(reversed(apartRules())...), edges, [][]impl.Fact{ways, {fact(3, 2)}, {fact(1, 0), fact(1, 1), fact(1, 3)}}},
		{"a given fact of a head that is denied", growing(apartRules()...), append(slices.Clone(edges), fact(3, 0)),
			[][]impl.Fact{ways, {fact(3, 2)}, {fact(1, 1), fact(1, 3)}}},
		{"a given fact of a head that is asked", growing(apartRules()...), append(slices.Clone(edges), fact(4, 2, 2)), [][]impl.Fact{ways, nil, {fact(1, 0), fact(1, 1), fact(1, 2), fact(1, 3)}}},
		{"a given fact of the last head", growing(apartRules()...), append([]impl.Fact{fact(1, 5)}, edges...),
			[][]impl.Fact{ways, {fact(3, 2)}, {fact(1, 0), fact(1, 1), fact(1, 3)}}},
		{"denials alone", chain, nil, [][]impl.Fact{nil, {fact(2)}, nil, {fact(0)}}},
		{"denials of what is given", chain, []impl.Fact{fact(3)}, [][]impl.Fact{nil, nil, {fact(1)}, nil}},
		{"a given fact that would not be said", chain, []impl.Fact{fact(1), fact(3)}, [][]impl.Fact{nil, nil, nil, nil}},
		{"a denial of what is said without a body", growing(rule(atom(1, 2)), rule(atom(3, varW), yes(2, varW, varX), no(1, varW))), edges,
			[][]impl.Fact{{fact(1, 2)}, {fact(3, 0), fact(3, 1)}}},
		{"rounds of a layer that denies, too", growing(rule(atom(3, 1)), rule(atom(1, 0), no(3, 0)), rule(atom(1, varX), yes(1, varW), yes(2, varW, varX), no(3, varX))), edges,
			[][]impl.Fact{{fact(3, 1)}, {fact(1, 0)}}},
		{"rounds of a layer over what is not denied", growing(rule(atom(3, 3)), rule(atom(1, 0), no(3, 0)), rule(atom(1, varX), no(3, varX), yes(1, varW), yes(2, varW, varX))), edges,
			[][]impl.Fact{{fact(3, 3)}, {fact(1, 0), fact(1, 1), fact(1, 2)}}},
		{"two that ask each other in a layer that denies", growing(rule(atom(3, varX), yes(1, varX), no(0)), rule(atom(1, varX), yes(3, varW), yes(2, varW, varX), no(0))), append([]impl.Fact{fact(1, 1)}, edges...),
			[][]impl.Fact{nil, {fact(1, 0), fact(1, 2), fact(1, 3), fact(3, 0), fact(3, 1), fact(3, 2), fact(3, 3)}}},
		{"a layer in which nothing new is denied", growing(rule(atom(3, varW), yes(1, varW), no(0)), rule(atom(0), yes(1, 5))), []impl.Fact{fact(1, 5)}, [][]impl.Fact{{fact(0)}, nil}},
		{"denied by the pair, not by its parts", growing(rule(atom(4, varW, varX), yes(1, varW), yes(1, varX), no(2, varX, varW))), []impl.Fact{fact(1, 0), fact(1, 1), fact(2, 0, 1)},
			[][]impl.Fact{nil, {fact(4, 0, 0), fact(4, 0, 1), fact(4, 1, 1)}}},
	}
	for _, c := range cases {
		want := c.db
		for layer, more := range c.more {
			want = union(want, more)
			if got, ok := impl.ModelAt(c.p, c.db, layer); !ok || !sameFacts(got, want) {
				t.Errorf("%s: ModelAt %d = %v, %v, want %v", c.name, layer, got, ok, want)
			}
		}
		for _, layer := range []int{len(c.more), impl.MaxPreds, math.MaxInt} {
			if got, ok := impl.ModelAt(c.p, c.db, layer); !ok || !sameFacts(got, want) {
				t.Errorf("%s: ModelAt %d = %v, %v, want %v", c.name, layer, got, ok, want)
			}
		}
		if got, ok := impl.Model(c.p, c.db); !ok || !sameFacts(got, want) {
			t.Errorf("%s: Model = %v, %v, want %v", c.name, got, ok, want)
		}
		layers, _ := impl.LayersOf(c.p)
		if got, ok := impl.ModelBy(c.p, c.db, layers); !ok || !sameFacts(got, want) {
			t.Errorf("%s: ModelBy = %v, %v, want %v", c.name, got, ok, want)
		}
	}
}

func TestModelBy(t *testing.T) {
	p := growing(apartRules()...)
	db := []impl.Fact{fact(2, 0, 1), fact(2, 1, 0), fact(2, 1, 2), fact(3, 5)}
	want, _ := impl.Model(p, db)
	if !sameFacts(want, plainModel(p, db, []int{0, 2, 0, 1, 0})) {
		t.Fatalf("Model = %v", want)
	}
	cases := []struct {
		name   string
		layers []int
		ok     bool
	}{
		{"the least", []int{0, 2, 0, 1, 0}, true},
		{"one layer for each", []int{0, 4, 1, 3, 2}, true},
		{"gaps", []int{7, 100, 0, 50, 20}, true},
		{"not from 0 on", []int{3, 5, 3, 4, 3}, true},
		{"greatest numbers", []int{math.MaxInt, math.MaxInt, math.MaxInt - 3, math.MaxInt - 1, math.MaxInt - 2}, true},
		{"a gap past all numbers that are not long", []int{0, math.MaxInt, 0, 1 << 40, 1 << 32}, true},
		{"who does nothing stands above all", []int{9, 2, 0, 1, 0}, true},
		{"what is denied in the same layer", []int{0, 1, 0, 1, 0}, false},
		{"what is asked in a greater layer", []int{0, 3, 2, 2, 1}, false},
		{"below 0", []int{-1, 2, 0, 1, 0}, false},
		{"all below 0", []int{-5, -1, -5, -3, -4}, false},
		{"too few", []int{0, 2, 0, 1}, false},
		{"too many", []int{0, 2, 0, 1, 0, 0}, false},
		{"none", nil, false},
	}
	for _, c := range cases {
		got, ok := impl.ModelBy(p, db, c.layers)
		if ok != c.ok || ok && !sameFacts(got, want) || !ok && len(got) != 0 {
			t.Errorf("%s: ModelBy(.., %v) = %v, %v", c.name, c.layers, got, ok)
		}
	}
	for _, layer := range []int{-1, -2, math.MinInt} {
		if got, ok := impl.ModelAt(p, db, layer); ok || len(got) != 0 {
			t.Errorf("ModelAt %d = %v, %v", layer, got, ok)
		}
	}
}

func TestSupported(t *testing.T) {
	either := programWith([]int{0, 0, 0}, rule(atom(0), no(1)), rule(atom(1), no(0)), rule(atom(2), yes(2)))
	ways := growing(wayRules()...)
	edges := chainOf(2, 2)
	all := append(slices.Clone(edges), fact(4, 0, 1), fact(4, 0, 2), fact(4, 1, 2))
	cases := []struct {
		name string
		p    impl.Program
		db   []impl.Fact
		list []impl.Fact
		want bool
	}{
		{"nothing at all", impl.Program{}, nil, nil, true},
		{"no facts", ways, edges, nil, true},
		{"given facts alone", ways, all, all, true},
		{"given facts, no rules", growing(), all, all[1:], true},
		{"one that is not given", growing(), all[1:], all, false},
		{"what rules say", ways, edges, all, true},
		{"not all that rules say", ways, edges, append(slices.Clone(edges), fact(4, 0, 1)), true},
		{"a way whose last part is missing", ways, edges, append(slices.Clone(edges), fact(4, 0, 2)), false},
		{"ways without their edges", ways, edges, all[2:], false},
		{"an edge that is missing in the list, and given", ways, edges, all[1:], false},
		{"a way that is given", ways, append(slices.Clone(edges), fact(4, 5, 5)), append(slices.Clone(all), fact(4, 5, 5)), true},
		{"a way too many", ways, edges, append(slices.Clone(all), fact(4, 5, 5)), false},
		{"a way that supports itself", ways, append(slices.Clone(edges), fact(2, 3, 3)), []impl.Fact{fact(2, 3, 3), fact(4, 3, 5)}, true},
		{"a rule without a body", growing(rule(atom(3, 2))), nil, []impl.Fact{fact(3, 2)}, true},
		{"a rule without a body, another constant", growing(rule(atom(3, 2))), nil, []impl.Fact{fact(3, 1)}, false},
		{"a rule without a body, another predicate", growing(rule(atom(3, 2))), nil, []impl.Fact{fact(1, 2)}, false},
		{"without layers, the one", either, nil, []impl.Fact{fact(0)}, true},
		{"without layers, the other one", either, nil, []impl.Fact{fact(1)}, true},
		{"without layers, both", either, nil, []impl.Fact{fact(0), fact(1)}, false},
		{"without layers, both, one given", either, []impl.Fact{fact(1)}, []impl.Fact{fact(0), fact(1)}, false},
		{"without layers, both given", either, []impl.Fact{fact(0), fact(1)}, []impl.Fact{fact(0), fact(1)}, true},
		{"without layers, none", either, nil, nil, true},
		{"who denies itself", linked(1, linkNo(0, 0)), nil, []impl.Fact{fact(0)}, false},
		{"who denies itself, without it", linked(1, linkNo(0, 0)), nil, nil, true},
		{"who asks itself", either, nil, []impl.Fact{fact(0), fact(2)}, true},
		{"the last fact of the last predicate", growing(rule(atom(4, 5, 5), yes(0))), nil, []impl.Fact{fact(0), fact(4, 5, 5)}, false},
		{"the last fact of the last predicate, supported", growing(rule(atom(4, 5, 5), yes(0))), []impl.Fact{fact(0)}, []impl.Fact{fact(0), fact(4, 5, 5)}, true},
	}
	for _, c := range cases {
		if got := impl.Supported(c.p, c.db, c.list); got != c.want {
			t.Errorf("%s: Supported = %v", c.name, got)
		}
	}
}

func TestAnswers(t *testing.T) {
	p := growing(apartRules()...)
	db := []impl.Fact{fact(0), fact(2, 0, 1), fact(2, 1, 0), fact(2, 1, 2)}
	cases := []struct {
		name string
		atom impl.Atom
		want []impl.Fact
	}{
		{"no places", atom(0), []impl.Fact{fact(0)}},
		{"all that is given", atom(2, varW, varX), db[1:]},
		{"all that is said", atom(4, varX, varW), []impl.Fact{fact(4, 0, 0), fact(4, 0, 1), fact(4, 0, 2), fact(4, 1, 0), fact(4, 1, 1), fact(4, 1, 2)}},
		{"a variable twice", atom(4, varZ, varZ), []impl.Fact{fact(4, 0, 0), fact(4, 1, 1)}},
		{"a constant first", atom(4, 1, varY), []impl.Fact{fact(4, 1, 0), fact(4, 1, 1), fact(4, 1, 2)}},
		{"a constant last", atom(4, varW, 2), []impl.Fact{fact(4, 0, 2), fact(4, 1, 2)}},
		{"constants alone", atom(4, 0, 2), []impl.Fact{fact(4, 0, 2)}},
		{"constants alone, not said", atom(4, 2, 0), nil},
		{"no such constant", atom(4, 5, varW), nil},
		{"of a later layer", atom(1, varW), []impl.Fact{fact(1, 0), fact(1, 1), fact(1, 2)}},
		{"of a layer that brings nothing", atom(3, varW), nil},
	}
	for _, c := range cases {
		if got, ok := impl.Answers(p, db, c.atom); !ok || !sameFacts(got, c.want) {
			t.Errorf("%s: Answers(.., %v) = %v, %v", c.name, c.atom, got, ok)
		}
	}
	none := []impl.Atom{
		atom(-1), atom(5), atom(24), atom(math.MaxInt), atom(math.MinInt), atom(0, 1), atom(0, varW), atom(1), atom(1, 2, 3), atom(2, varW), atom(4, varW, varX, varY),
		atom(1, 6), atom(1, -5), atom(4, varW, 6), atom(4, -5, 1), atom(4, math.MinInt, math.MaxInt),
	}
	for _, a := range none {
		if got, ok := impl.Answers(p, db, a); ok || len(got) != 0 {
			t.Errorf("Answers(.., %v) = %v, %v", a, got, ok)
		}
	}
	if got, ok := impl.Answers(impl.Program{}, nil, impl.Atom{}); ok || len(got) != 0 {
		t.Errorf("Answers of no predicates = %v, %v", got, ok)
	}
}

func TestGroundOf(t *testing.T) {
	list := []impl.Fact{fact(0), fact(1, 3), fact(1, 4), fact(2, 3, 4), fact(2, 4, 1)}
	cases := []struct {
		name string
		p    impl.Program
		list []impl.Fact
		want []impl.Rule
	}{
		{"nothing at all", impl.Program{}, nil, nil},
		{"no rules", growing(), list, nil},
		{"no facts", growing(wayRules()...), nil, nil},
		{"without a body", growing(rule(atom(3, 2)), rule(atom(0))), nil, []impl.Rule{rule(atom(3, 2)), rule(atom(0))}},
		{"denials alone, there or not", growing(rule(atom(3, 2), no(1, 3)), rule(atom(3, 3), no(1, 0))), list, []impl.Rule{rule(atom(3, 2), no(1, 3)), rule(atom(3, 3), no(1, 0))}},
		{"an atom for each fact", growing(rule(atom(4, varX, varW), yes(2, varW, varX))), list, []impl.Rule{rule(atom(4, 4, 3), yes(2, 3, 4)), rule(atom(4, 1, 4), yes(2, 4, 1))}},
		{"by the first variable, not by the first atom", growing(rule(atom(0), yes(2, varX, varW))), list, []impl.Rule{rule(atom(0), yes(2, 4, 1)), rule(atom(0), yes(2, 3, 4))}},
		{"all pairs", growing(rule(atom(4, varX, varW), yes(1, varX), yes(1, varW))), list, []impl.Rule{
			rule(atom(4, 3, 3), yes(1, 3), yes(1, 3)), rule(atom(4, 4, 3), yes(1, 4), yes(1, 3)), rule(atom(4, 3, 4), yes(1, 3), yes(1, 4)), rule(atom(4, 4, 4), yes(1, 4), yes(1, 4))}},
		{"rule by rule, in their order", growing(rule(atom(3, varW), yes(1, varW)), rule(atom(0), yes(0)), rule(atom(3, varW), yes(1, varW))), list, []impl.Rule{
			rule(atom(3, 3), yes(1, 3)), rule(atom(3, 4), yes(1, 4)), rule(atom(0), yes(0)), rule(atom(3, 3), yes(1, 3)), rule(atom(3, 4), yes(1, 4))}},
		{"what is denied stays, there or not", growing(rule(atom(3, varW), no(2, varW, varX), yes(2, varX, varW), no(1, varW))), list, []impl.Rule{
			rule(atom(3, 1), no(2, 1, 4), yes(2, 4, 1), no(1, 1)), rule(atom(3, 4), no(2, 4, 3), yes(2, 3, 4), no(1, 4))}},
		{"comparisons are asked, and stay", growing(rule(atom(3, varZ), less(varZ, 4), yes(1, varZ), same(varZ, varZ))), list, []impl.Rule{rule(atom(3, 3), less(3, 4), yes(1, 3), same(3, 3))}},
		{"comparisons of constants", growing(rule(atom(0), less(1, 2), no(0)), rule(atom(0), same(1, 2))), list, []impl.Rule{rule(atom(0), less(1, 2), no(0))}},
		{"an atom without variables is asked too", growing(rule(atom(3, varW), yes(1, varW), yes(2, 3, 4)), rule(atom(3, varW), yes(1, varW), yes(2, 4, 3))), list, []impl.Rule{
			rule(atom(3, 3), yes(1, 3), yes(2, 3, 4)), rule(atom(3, 4), yes(1, 4), yes(2, 3, 4))}},
		{"without layers", growing(rule(atom(1, varW), yes(1, varW), no(1, varW))), list, []impl.Rule{rule(atom(1, 3), yes(1, 3), no(1, 3)), rule(atom(1, 4), yes(1, 4), no(1, 4))}},
	}
	for _, c := range cases {
		if got := impl.GroundOf(c.p, c.list); !sameRules(got, c.want) {
			t.Errorf("%s: GroundOf = %v, want %v", c.name, got, c.want)
		}
	}
}

func TestModelsOfWhatIsNone(t *testing.T) {
	for name, p := range noPrograms() {
		for _, list := range [][]impl.Fact{nil, {fact(1, 2)}} {
			checkNoModel(t, name, p, list)
			checkNoGround(t, name, p, list)
			if impl.Supported(p, list, nil) || impl.Supported(p, list, list) {
				t.Errorf("%s: supported", name)
			}
		}
	}
	for name, list := range noLists() {
		for _, p := range []impl.Program{growing(), growing(rule(atom(3, varW), yes(1, varW), no(0)), rule(atom(1, 2)))} {
			checkNoModel(t, name, p, list)
			checkNoGround(t, name, p, list)
			if impl.Supported(p, list, nil) || impl.Supported(p, nil, list) || impl.Supported(p, list, list) {
				t.Errorf("%s: supported", name)
			}
		}
	}
	checkNoModel(t, "facts of no predicates", impl.Program{}, []impl.Fact{{}})
	checkNoGround(t, "facts of no predicates", impl.Program{}, []impl.Fact{{}})
}

// noLayers returns programs of growPlaces in which what is denied asks who denies it.
func noLayers() []impl.Program {
	return []impl.Program{
		growing(rule(atom(0), no(0))),
		growing(rule(atom(3, varW), yes(1, varW)), rule(atom(1, varX), yes(2, varW, varX), no(1, varW))),
		growing(rule(atom(3, varW), yes(1, varW), no(0)), rule(atom(4, 1, 2), yes(3, 2)), rule(atom(0), yes(4, varW, varX))),
	}
}

// Rules without layers say nothing, but they are ground, and facts may be supported.
func TestModelsWithoutLayers(t *testing.T) {
	db := []impl.Fact{fact(1, 2), fact(2, 1, 2), fact(2, 2, 3)}
	for _, p := range noLayers() {
		checkNoModel(t, "without layers", p, db)
		if got, want := impl.GroundOf(p, db), plainGround(p, db); !sameRules(got, want) || len(got) == 0 {
			t.Errorf("GroundOf(%v) = %v, want %v", p, got, want)
		}
		for _, list := range [][]impl.Fact{nil, db, {fact(0)}, union(db, plainConsequences(p, db)), {fact(1, 2), fact(3, 2)}, {fact(0), fact(1, 2), fact(3, 2)}} {
			for _, given := range [][]impl.Fact{nil, db} {
				if got, want := impl.Supported(p, given, list), plainSupported(p, given, list); got != want {
					t.Errorf("Supported(%v, %v, %v) = %v", p, given, list, got)
				}
			}
		}
	}
}

func checkNoModel(t *testing.T, name string, p impl.Program, db []impl.Fact) {
	t.Helper()
	if got, ok := impl.Model(p, db); ok || len(got) != 0 {
		t.Errorf("%s: Model = %v, %v", name, got, ok)
	}
	for _, layer := range []int{0, 1, 5, -1, math.MaxInt, math.MinInt} {
		if got, ok := impl.ModelAt(p, db, layer); ok || len(got) != 0 {
			t.Errorf("%s: ModelAt %d = %v, %v", name, layer, got, ok)
		}
	}
	for _, layers := range [][]int{make([]int, len(p.Arity)), numbersTo(len(p.Arity)), nil} {
		if got, ok := impl.ModelBy(p, db, layers); ok || len(got) != 0 {
			t.Errorf("%s: ModelBy(.., %v) = %v, %v", name, layers, got, ok)
		}
	}
	for _, a := range []impl.Atom{atom(0), atom(1, varW), atom(1, 2), atom(2, varW, varX)} {
		if got, ok := impl.Answers(p, db, a); ok || len(got) != 0 {
			t.Errorf("%s: Answers(.., %v) = %v, %v", name, a, got, ok)
		}
	}
}

func checkNoGround(t *testing.T, name string, p impl.Program, list []impl.Fact) {
	t.Helper()
	if got := impl.GroundOf(p, list); len(got) != 0 {
		t.Errorf("%s: GroundOf = %v", name, got)
	}
}

// The sixth promise, for programs of two and three predicates without places, all facts that may be given, and all layers
// that fit: what rules say is closed and supported, and the same by them all. It is also the one set
// that comes of what is given if what is denied is told of itself.
func TestWhatRulesSayIsTheSameByAllLayers(t *testing.T) {
	counts := map[bool]int{}
	check := func(preds int, kinds int) {
		for n := range power(kinds, preds*preds) {
			p := programOfNumber(preds, kinds, n)
			_, ok := impl.LayersOf(p)
			if !ok && n%64 != 0 {
				continue
			}
			counts[ok]++
			for _, q := range []impl.Program{p, literalByLiteral(p)} {
				for m := range 1 << preds {
					checkAllLayers(t, q, pick(allOf(q.Arity), m))
				}
			}
		}
	}
	check(2, 4)
	check(3, 3)
	if counts[true] < 1200 || counts[false] < 250 {
		t.Errorf("%d with layers, %d without", counts[true], counts[false])
	}
}

func checkAllLayers(t *testing.T, p impl.Program, db []impl.Fact) {
	t.Helper()
	model, ok := impl.Model(p, db)
	if _, layered := impl.LayersOf(p); ok != layered || !ok && len(model) != 0 {
		t.Fatalf("Model(%v, %v) = %v, %v", p, db, model, ok)
	}
	if ok {
		checkPromise(t, p, db, model)
	}
	preds := len(p.Arity)
	for n := range power(preds, preds) {
		layers := digits(n, preds, preds)
		got, fit := impl.ModelBy(p, db, layers)
		if fit != plainFit(p, layers) || !fit && len(got) != 0 || fit && !sameFacts(got, model) {
			t.Fatalf("ModelBy(%v, %v, %v) = %v, %v, want %v", p, db, layers, got, fit, model)
		}
	}
	for n := range 1 << preds {
		set := pick(allOf(p.Arity), n)
		if got, want := impl.Supported(p, db, set), plainSupported(p, db, set); got != want {
			t.Fatalf("Supported(%v, %v, %v) = %v", p, db, set, got)
		}
		if ok && within(db, set) && sameFacts(plainOfDenied(p, db, set), set) != sameFacts(set, model) {
			t.Fatalf("Model(%v, %v) = %v, and %v", p, db, model, set)
		}
	}
}

// checkPromise checks that what rules say is closed and supported, and has what is given.
func checkPromise(t *testing.T, p impl.Program, db, model []impl.Fact) {
	t.Helper()
	if !within(db, model) || !within(plainConsequences(p, model), model) || !impl.Closed(p, model) || !impl.Supported(p, db, model) || !plainSupported(p, db, model) {
		t.Fatalf("Model(%v, %v) = %v is not closed and supported", p, db, model)
	}
}

// Programs of two to five rules of a table are held against a model that asks, layer by layer, all rules of all facts.
func TestModelsAgainstPlainOnes(t *testing.T) {
	table := modelRules()
	next := numbersFrom(6)
	counts := map[bool]int{}
	for range 500 {
		p := growing()
		for range 2 + next(4) {
			p.Rules = append(p.Rules, table[next(len(table))])
		}
		layers, ok := impl.LayersOf(p)
		counts[ok]++
		for _, db := range growLists() {
			checkGround(t, p, db)
			if !ok {
				checkNoModel(t, "without layers", p, db)
				continue
			}
			checkModel(t, p, db, layers)
			raised := raisedLayers(p, layers, next)
			model, _ := impl.Model(p, db)
			if got, fit := impl.ModelBy(p, db, raised); !fit || !sameFacts(got, model) {
				t.Fatalf("ModelBy(%v, %v, %v) = %v, %v, want %v", p, db, raised, got, fit, model)
			}
		}
	}
	if counts[true] < 150 || counts[false] < 50 {
		t.Errorf("%d with layers, %d without", counts[true], counts[false])
	}
}

func checkModel(t *testing.T, p impl.Program, db []impl.Fact, layers []int) {
	t.Helper()
	want := plainModel(p, db, layers)
	if got, ok := impl.Model(p, db); !ok || !sameFacts(got, want) {
		t.Fatalf("Model(%v, %v) = %v, %v, want %v", p, db, got, ok, want)
	}
	checkPromise(t, p, db, want)
	if got := plainOfDenied(p, db, want); !sameFacts(got, want) {
		t.Fatalf("Model(%v, %v) = %v, but what it denies leaves %v", p, db, want, got)
	}
	if impl.Positive(p) && !sameFacts(impl.Least(p, db), want) {
		t.Fatalf("Least(%v, %v) is not %v", p, db, want)
	}
	for layer := range slices.Max(layers) + 2 {
		part := programWith(p.Arity)
		for _, r := range p.Rules {
			if layers[r.Head.Pred] <= layer {
				part.Rules = append(part.Rules, r)
			}
		}
		if got, ok := impl.ModelAt(p, db, layer); !ok || !sameFacts(got, plainModel(part, db, layers)) {
			t.Fatalf("ModelAt(%v, %v, %d) = %v, %v", p, db, layer, got, ok)
		}
	}
	for i, f := range want {
		without := slices.Delete(slices.Clone(want), i, i+1)
		if got := impl.Supported(p, db, without); got != plainSupported(p, db, without) {
			t.Fatalf("Supported(%v, %v, %v) = %v", p, db, without, got)
		}
		if got := impl.Supported(p, nil, want[:i+1]); got != plainSupported(p, nil, want[:i+1]) {
			t.Fatalf("Supported(%v, nothing, %v) = %v, up to %v", p, want[:i+1], got, f)
		}
	}
	checkAnswers(t, p, db, want)
}

func checkAnswers(t *testing.T, p impl.Program, db, model []impl.Fact) {
	t.Helper()
	for _, a := range []impl.Atom{atom(0), atom(1, varX), atom(1, 4), atom(2, varW, varX), atom(2, varY, varY), atom(3, varZ), atom(4, varZ, varW), atom(4, varW, 3), atom(4, 1, varW), atom(4, 4, 5)} {
		var want []impl.Fact
		for _, f := range model {
			if plainMatch(a, f, nothing()) != nil {
				want = append(want, f)
			}
		}
		if got, ok := impl.Answers(p, db, a); !ok || !sameFacts(got, want) {
			t.Fatalf("Answers(%v, %v, %v) = %v, %v, want %v", p, db, a, got, ok, want)
		}
	}
}

func checkGround(t *testing.T, p impl.Program, list []impl.Fact) {
	t.Helper()
	got := impl.GroundOf(p, list)
	if !sameRules(got, plainGround(p, list)) {
		t.Fatalf("GroundOf(%v, %v) = %v", p, list, got)
	}
	// Ground rules say what the rules say, as far as their atoms that are to hold are among these facts.
	var heads []impl.Fact
	for _, r := range got {
		if !impl.RuleOk(p.Arity, r) || len(impl.VarsOf(r)) != 0 {
			t.Fatalf("GroundOf(%v, %v) has %v", p, list, r)
		}
		if allHold(list, r.Body, nothing()) {
			heads = plainWith(heads, impl.Fact{Pred: r.Head.Pred, Args: r.Head.Args})
		}
	}
	if !sameFacts(heads, impl.Consequences(p, list)) {
		t.Fatalf("GroundOf(%v, %v) says %v", p, list, heads)
	}
}

// denyingAll has as many predicates, rules and layers as there may be: each predicate has what the one ahead of it has not.
func denyingAll() impl.Program {
	p := programWith(slices.Repeat([]int{2}, impl.MaxPreds))
	for i := range impl.MaxRules {
		pred := i % (impl.MaxPreds - 1)
		p.Rules = append(p.Rules, rule(atom(pred+1, varW, varX), yes(0, varW, varY), yes(0, varX, varZ), yes(0, varW, varX), no(pred, varW, varX)))
	}
	return p
}

func TestModelsOfAllLayers(t *testing.T) {
	p := denyingAll()
	db := impl.AllFacts(0, 2)
	want := db
	for layer := range impl.MaxPreds {
		if layer > 0 && layer%2 == 0 {
			want = append(want[:len(want):len(want)], impl.AllFacts(layer, 2)...)
		}
		if got, ok := impl.ModelAt(p, db, layer); !ok || !sameFacts(got, want) {
			t.Errorf("ModelAt %d has %d facts, and %v", layer, len(got), ok)
		}
	}
	var gaps []int
	for pred := range impl.MaxPreds {
		gaps = append(gaps, pred*pred*pred*(math.MaxInt>>14)+pred)
	}
	for _, layers := range [][]int{numbersTo(impl.MaxPreds), gaps} {
		if got, ok := impl.ModelBy(p, db, layers); !ok || !sameFacts(got, want) {
			t.Errorf("ModelBy(.., %v) has %d facts, and %v", layers, len(got), ok)
		}
	}
	if got, ok := impl.Answers(p, db, atom(22, 5, varW)); !ok || !sameFacts(got, impl.AllFacts(22, 2)[30:]) {
		t.Errorf("Answers = %v, %v", got, ok)
	}
	ground := impl.GroundOf(p, db)
	if len(ground) != impl.MaxRules*36*36 || len(impl.VarsOf(ground[len(ground)-1])) != 0 {
		t.Errorf("%d ground rules", len(ground))
	}
	if !impl.Supported(p, db, want) || impl.Supported(p, db[1:], want) {
		t.Error("what rules say is not supported by what is given")
	}
	p.Rules = append(p.Rules, p.Rules[0])
	checkNoModel(t, "a rule too many", p, db)
	checkNoGround(t, "a rule too many", p, db)
}

// countingByLayers returns the rules of counters of two places, one for every second layer, that bring one fact a round over
// a chain of 0: each begins when the layer between, having nothing, tells that the one ahead has come to its end.
func countingByLayers(counters int) impl.Program {
	p := programWith(slices.Repeat([]int{2}, 2*counters+1))
	for i := range counters {
		pred := 2*i + 1
		p.Rules = append(p.Rules,
			rule(atom(pred, varW, varY), yes(pred, varW, varX), yes(0, varX, varY)),
			rule(atom(pred, varY, 0), yes(0, varX, varY), yes(pred, varX, 5)),
			rule(atom(pred+1, varX, varY), yes(0, varX, varY), no(pred, 5, 5)))
		if i == 0 {
			p.Rules = append(p.Rules, rule(atom(1, 0, 0)))
		} else {
			p.Rules = append(p.Rules, rule(atom(pred, 0, 0), no(pred-1, 0, 1)))
		}
	}
	return p
}

// Each layer's rounds begin with what the layers ahead of it brought in many rounds.
func TestModelsOfManyRounds(t *testing.T) {
	const counters = 11
	p := countingByLayers(counters)
	db := chainOf(0, 5)
	want := db
	for i := range counters {
		want = append(want[:len(want):len(want)], impl.AllFacts(2*i+1, 2)...)
		if got, ok := impl.ModelAt(p, db, 2*i); !ok || !sameFacts(got, want) {
			t.Errorf("ModelAt %d has %d facts, and %v", 2*i, len(got), ok)
		}
	}
	if got, ok := impl.Model(p, db); !ok || !sameFacts(got, want) {
		t.Errorf("Model has %d facts, and %v", len(got), ok)
	}
}

func TestModelsNilIsEmpty(t *testing.T) {
	for _, p := range []impl.Program{{}, {Arity: []int{}, Rules: []impl.Rule{}}} {
		for _, none := range [][]impl.Fact{nil, {}} {
			for _, layers := range [][]int{nil, {}} {
				if got, ok := impl.ModelBy(p, none, layers); !ok || len(got) != 0 {
					t.Errorf("ModelBy of nothing = %v, %v", got, ok)
				}
			}
			got, ok := impl.Model(p, none)
			at, okAt := impl.ModelAt(p, none, 0)
			if !ok || !okAt || len(got) != 0 || len(at) != 0 || !impl.Supported(p, none, nil) || !impl.Supported(p, nil, none) || len(impl.GroundOf(p, none)) != 0 {
				t.Errorf("Model of nothing = %v, %v, and up to a layer %v, %v", got, ok, at, okAt)
			}
		}
	}
	for _, args := range [][]int{nil, {}} {
		for _, body := range [][]impl.Lit{nil, {}} {
			p := programWith([]int{0, 0}, impl.Rule{Head: impl.Atom{Pred: 1, Args: args}, Body: body})
			db := []impl.Fact{{Args: args}}
			want := []impl.Fact{fact(0), fact(1)}
			if got, ok := impl.Model(p, db); !ok || !sameFacts(got, want) || !impl.Supported(p, db, want) {
				t.Errorf("Model = %v, %v", got, ok)
			}
			if got, ok := impl.Answers(p, db, impl.Atom{Pred: 1, Args: args}); !ok || !sameFacts(got, want[1:]) {
				t.Errorf("Answers = %v, %v", got, ok)
			}
			if got := impl.GroundOf(p, db); !sameRules(got, []impl.Rule{rule(atom(1))}) {
				t.Errorf("GroundOf = %v", got)
			}
		}
	}
}

func TestModelsArgumentsAreNotChanged(t *testing.T) {
	table := modelRules()
	for i := range table {
		p := roomyProgram(growing(table[i], table[(i+1)%len(table)], table[(i+5)%len(table)]))
		for _, list := range growLists() {
			db, set := roomy(list), roomy(list)
			layers := roomyNumbers([]int{3, 0, 7, 0, 2})
			a := roomyAtom(atom(4, varW, varX))
			wantProgram, wantList := programNumbers(p), deepCopy(whole(db))
			impl.Model(p, db)
			impl.ModelAt(p, db, 1)
			impl.ModelBy(p, db, layers)
			impl.Supported(p, db, set)
			impl.Answers(p, db, a)
			impl.GroundOf(p, set)
			if !sameFacts(whole(db), wantList) || !sameFacts(whole(set), wantList) || !slices.Equal(programNumbers(p), wantProgram) {
				t.Fatalf("an argument is changed by %v", p)
			}
			if !slices.Equal(layers[:cap(layers)], []int{3, 0, 7, 0, 2, 0, 0, 0}) || !slices.Equal(a.Args[:cap(a.Args)], []int{varW, varX, 0, 0, 0}) {
				t.Fatalf("layers or an atom are changed by %v", p)
			}
		}
	}
}

func TestModelsShareNothing(t *testing.T) {
	p := roomyProgram(growing(append(apartRules(), rule(atom(0), yes(3, 2)))...))
	db := roomy([]impl.Fact{fact(2, 0, 1), fact(2, 1, 0), fact(2, 1, 2), fact(2, 2, 3), fact(4, 5, 5)})
	wantProgram, wantList := programNumbers(p), deepCopy(whole(db))
	calls := map[string]func() []impl.Fact{
		"Model":               func() []impl.Fact { got, _ := impl.Model(p, db); return got },
		"ModelAt":             func() []impl.Fact { got, _ := impl.ModelAt(p, db, 0); return got },
		"ModelBy":             func() []impl.Fact { got, _ := impl.ModelBy(p, db, []int{9, 9, 0, 5, 0}); return got },
		"Model without rules": func() []impl.Fact { got, _ := impl.Model(programWith(p.Arity), db); return got },
		"Answers":             func() []impl.Fact { got, _ := impl.Answers(p, db, atom(4, varW, varX)); return got },
		"Answers, given ones": func() []impl.Fact { got, _ := impl.Answers(p, db, atom(2, 1, varX)); return got },
	}
	checkCallsApart(t, calls, func() bool { return sameFacts(whole(db), wantList) && slices.Equal(programNumbers(p), wantProgram) })
}

func TestGroundSharesNothing(t *testing.T) {
	p := roomyProgram(growing(append(apartRules(), rule(atom(3, 2)), rule(atom(0), no(3, 2), less(1, 2)))...))
	db := roomy([]impl.Fact{fact(2, 0, 1), fact(2, 1, 0), fact(4, 1, 0)})
	wantProgram, wantList := programNumbers(p), deepCopy(whole(db))
	want := plainGround(p, deepCopy(db))
	for at := range want {
		first, second := impl.GroundOf(p, db), impl.GroundOf(p, db)
		scribbleRule(first[at])
		body := first[at].Body[:cap(first[at].Body)]
		for i := range body {
			body[i] = impl.Lit{Kind: -9}
		}
		first[at] = want[at]
		for _, got := range [][]impl.Rule{first, second, impl.GroundOf(p, db)} {
			if !sameRules(got, want) {
				t.Fatalf("writing to the rule %d changes another one", at)
			}
		}
		if !sameFacts(whole(db), wantList) || !slices.Equal(programNumbers(p), wantProgram) {
			t.Fatal("writing to a ground rule changes an argument")
		}
	}
	checkTermsApart(t, impl.GroundOf(p, db))
}

// checkTermsApart checks that no two atoms of rules share memory.
func checkTermsApart(t *testing.T, rules []impl.Rule) {
	t.Helper()
	var terms [][]int
	for _, r := range rules {
		terms = append(terms, ruleArgs(r)...)
	}
	checkNumbersApart(t, terms)
}

// checkNumbersApart checks that no two lists of numbers share memory, unused capacity included.
func checkNumbersApart(t *testing.T, lists [][]int) {
	t.Helper()
	for i := range lists {
		lists[i] = lists[i][:cap(lists[i])]
	}
	for i := range lists {
		want := make([][]int, len(lists))
		for j := range lists {
			want[j] = slices.Clone(lists[j])
		}
		fill(lists[i])
		for j := range lists {
			if j != i && !slices.Equal(lists[j], want[j]) {
				t.Errorf("the lists %d and %d share memory", i, j)
			}
		}
		copy(lists[i], want[i])
	}
}

// modelRules are growRules and rules that deny something.
func modelRules() []impl.Rule {
	return append(growRules(),
		rule(atom(3, varW), yes(1, varW), no(0)),
		rule(atom(0), yes(2, varW, varW), no(3, varW)),
		rule(atom(1, varX), yes(2, varW, varX), no(2, varX, varW)),
		rule(atom(1, varX), yes(1, varW), yes(2, varW, varX), no(4, varX, varW)),
		rule(atom(4, varX, varW), no(2, varW, varX), yes(1, varW), yes(3, varX)),
		rule(atom(4, varW, varX), yes(2, varW, varX), no(1, varX), less(varW, varX)),
		rule(atom(4, varW, varY), yes(4, varW, varX), yes(2, varX, varY), no(3, varY), no(1, 5)),
		rule(atom(3, varX), yes(4, varW, varX), no(1, varW), no(1, varX)),
		rule(atom(1, 5), no(3, 4), no(0)),
		rule(atom(0), no(4, 0, 2), same(3, 3)))
}

// numbersFrom returns a source of numbers below a bound, which begins with a seed.
func numbersFrom(seed uint64) func(below int) int {
	return func(below int) int {
		seed = seed*6364136223846793005 + 1442695040888963407
		return int((seed >> 33) % uint64(below))
	}
}

// raisedLayers returns other layers that fit: gaps between all, and some predicates above where they must be.
func raisedLayers(p impl.Program, layers []int, next func(int) int) []int {
	out := slices.Clone(layers)
	for pred := range out {
		out[pred] = 3 + 9*layers[pred]
	}
	for range 12 {
		pred, by := next(len(out)), next(15)-3
		out[pred] += by
		if out[pred] < 0 || !plainFit(p, out) {
			out[pred] -= by
		}
	}
	return out
}

func reversed(rules []impl.Rule) []impl.Rule {
	out := slices.Clone(rules)
	slices.Reverse(out)
	return out
}

// literalByLiteral returns the program in which each literal of a body has a rule of its own.
func literalByLiteral(p impl.Program) impl.Program {
	out := programWith(p.Arity)
	for _, r := range p.Rules {
		for _, l := range r.Body {
			out.Rules = append(out.Rules, rule(r.Head, l))
		}
	}
	return out
}

// union returns the facts of two lists, the first of which is ascending.
func union(a, b []impl.Fact) []impl.Fact {
	for _, f := range b {
		a = plainWith(a, f)
	}
	return a
}

// plainModel asks, layer by layer, all rules of the layer of all facts, until there are no more.
func plainModel(p impl.Program, db []impl.Fact, layers []int) []impl.Fact {
	facts := db
	for _, part := range partsOf(p, layers) {
		rounds := plainRounds(part, facts)
		facts = rounds[len(rounds)-1]
	}
	return facts
}

// partsOf returns for each layer, the least one first, the program of its rules.
func partsOf(p impl.Program, layers []int) []impl.Program {
	var parts []impl.Program
	for _, layer := range slices.Compact(slices.Sorted(slices.Values(layers))) {
		part := programWith(p.Arity)
		for _, r := range p.Rules {
			if layers[r.Head.Pred] == layer {
				part.Rules = append(part.Rules, r)
			}
		}
		parts = append(parts, part)
	}
	return parts
}

// plainOfDenied returns what comes of given facts if what is denied is told of a set.
func plainOfDenied(p impl.Program, db, set []impl.Fact) []impl.Fact {
	facts := db
	for {
		next := facts
		for _, r := range plainGround(p, facts) {
			if !slices.ContainsFunc(r.Body, func(l impl.Lit) bool { return l.Kind == impl.LitNo && !plainHolds(set, l, nothing()) }) {
				next = plainWith(next, impl.Fact{Pred: r.Head.Pred, Args: r.Head.Args})
			}
		}
		if len(next) == len(facts) {
			return facts
		}
		facts = next
	}
}

func plainSupported(p impl.Program, db, list []impl.Fact) bool {
	return within(list, union(db, plainConsequences(p, list)))
}

// plainGround writes for each rule what the solutions of its body without denials have.
func plainGround(p impl.Program, list []impl.Fact) []impl.Rule {
	var out []impl.Rule
	for _, r := range p.Rules {
		body := slices.DeleteFunc(slices.Clone(r.Body), func(l impl.Lit) bool { return l.Kind == impl.LitNo })
		for _, bind := range plainSolutions(list, body) {
			ground := copyRule(r)
			for _, args := range ruleArgs(ground) {
				values, _ := plainValues(args, bind)
				copy(args, values)
			}
			out = append(out, ground)
		}
	}
	return out
}

func sameRules(a, b []impl.Rule) bool {
	return slices.EqualFunc(a, b, sameRule)
}
