package tests

import (
	"math"
	"slices"
	"testing"

	"loop.example/wholerules/impl"
)

func given(f impl.Fact) impl.Step {
	return impl.Step{Fact: f, Rule: -1}
}

func byRule(f impl.Fact, rule int, bind []int, from ...int) impl.Step {
	return impl.Step{Fact: f, Rule: rule, Bind: bind, From: from}
}

// has is what variables have, W to Z.
func has(w, x, y, z int) []int {
	return []int{w, x, y, z}
}

func TestProofOf(t *testing.T) {
	ways := growing(wayRules()...)
	edges := []impl.Fact{fact(2, 0, 1), fact(2, 1, 0), fact(2, 1, 2), fact(2, 2, 3)}
	two := []impl.Fact{fact(1, 2)}
	begun := rule(atom(3, varW), yes(1, varW))
	cases := []struct {
		name string
		p    impl.Program
		db   []impl.Fact
		want []impl.Step
	}{
		{"of the document", ways, chainOf(2, 2), []impl.Step{
			given(fact(2, 0, 1)), given(fact(2, 1, 2)), byRule(fact(4, 1, 2), 0, has(1, 2, -1, -1), 1), byRule(fact(4, 0, 2), 1, has(0, 2, 1, -1), 0, 2)}},
		{"along an edge", ways, chainOf(2, 2), []impl.Step{given(fact(2, 0, 1)), byRule(fact(4, 0, 1), 0, has(0, 1, -1, -1), 0)}},
		{"given", ways, chainOf(2, 2), []impl.Step{given(fact(2, 1, 2))}},
		{"given, no rules", growing(), []impl.Fact{fact(0), fact(4, 5, 5)}, []impl.Step{given(fact(0))}},
		{"given and said", ways, append(chainOf(2, 2), fact(4, 0, 1)), []impl.Step{given(fact(4, 0, 1))}},
		{"given, and said without a body", growing(rule(atom(1, 2))), two, []impl.Step{given(fact(1, 2))}},
		{"of what is given and said", ways, append(chainOf(2, 2), fact(4, 1, 2)), []impl.Step{
			given(fact(2, 0, 1)), given(fact(4, 1, 2)), byRule(fact(4, 0, 2), 1, has(0, 2, 1, -1), 0, 1)}},
		{"without a body", growing(rule(atom(3, 2))), nil, []impl.Step{byRule(fact(3, 2), 0, nothing())}},
		{"without a body, and asked", growing(rule(atom(0), yes(3, varZ)), rule(atom(3, 2))), nil, []impl.Step{byRule(fact(3, 2), 1, nothing()), byRule(fact(0), 0, has(-1, -1, -1, 2), 0)}},
		{"denials alone", growing(rule(atom(0), no(1, 5), no(3, 2))), two, []impl.Step{byRule(fact(0), 0, nothing())}},
		{"the first rule", growing(rule(atom(3, 1)), rule(atom(3, 2), yes(1, 5)), begun, rule(atom(3, 2)), begun), two, []impl.Step{given(fact(1, 2)), byRule(fact(3, 2), 2, has(2, -1, -1, -1), 0)}},
		{"the first rule, not the one with the fewest steps", growing(rule(atom(0), yes(1, varW), yes(2, varX, varW)), rule(atom(0))), []impl.Fact{fact(1, 2), fact(2, 5, 2)}, []impl.Step{
			given(fact(1, 2)), given(fact(2, 5, 2)), byRule(fact(0), 0, has(2, 5, -1, -1), 0, 1)}},
		{"a rule whose atom comes later", growing(rule(atom(3, varW), yes(4, varW, varX)), begun, rule(atom(4, varW, varW), yes(3, varW))), two, []impl.Step{
			given(fact(1, 2)), byRule(fact(3, 2), 1, has(2, -1, -1, -1), 0)}},
		{"a rule whose atom comes in the same round", growing(rule(atom(0), yes(3, 2)), begun, rule(atom(0), yes(1, 2))), two, []impl.Step{given(fact(1, 2)), byRule(fact(0), 2, nothing(), 0)}},
		{"a rule that asks the fact itself", growing(rule(atom(3, varW), yes(3, varW)), begun), two, []impl.Step{given(fact(1, 2)), byRule(fact(3, 2), 1, has(2, -1, -1, -1), 0)}},
		{"the first solution", growing(rule(atom(0), yes(2, varX, varW))), []impl.Fact{fact(2, 0, 5), fact(2, 3, 1)}, []impl.Step{given(fact(2, 3, 1)), byRule(fact(0), 0, has(1, 3, -1, -1), 0)}},
		{"a solution that comes later", growing(rule(atom(0), yes(3, varW)), rule(atom(3, 1), yes(0))), []impl.Fact{fact(3, 5)}, []impl.Step{given(fact(3, 5)), byRule(fact(0), 0, has(5, -1, -1, -1), 0)}},
		{"a solution that comes in the same round", growing(rule(atom(0), yes(3, varW)), rule(atom(3, 1), yes(3, 5))), []impl.Fact{fact(3, 5)}, []impl.Step{
			given(fact(3, 5)), byRule(fact(0), 0, has(5, -1, -1, -1), 0)}},
		{"a solution that is denied", growing(rule(atom(0), yes(1, varW), no(3, varW)), rule(atom(3, varX), yes(2, varX, varW))), []impl.Fact{fact(1, 1), fact(1, 4), fact(2, 1, 2)}, []impl.Step{
			given(fact(1, 4)), byRule(fact(0), 0, has(4, -1, -1, -1), 0)}},
		{"a solution that is not less", growing(rule(atom(0), less(3, varZ), yes(1, varZ), same(varZ, varZ))), impl.AllFacts(1, 1), []impl.Step{given(fact(1, 4)), byRule(fact(0), 0, has(-1, -1, -1, 4), 0)}},
		{"with the fact as head", growing(rule(atom(4, varX, varZ), yes(2, varX, varZ))), edges, []impl.Step{given(fact(2, 1, 2)), byRule(fact(4, 1, 2), 0, has(-1, 1, -1, 2), 0)}},
		{"a variable twice in the head", growing(rule(atom(4, varX, varX), yes(1, varX)), rule(atom(4, varX, varY), yes(1, varX), yes(1, varY))), []impl.Fact{fact(1, 2), fact(1, 3)}, []impl.Step{
			given(fact(1, 3)), given(fact(1, 2)), byRule(fact(4, 3, 2), 1, has(-1, 3, 2, -1), 0, 1)}},
		{"constants in the head", growing(rule(atom(4, 2, varX), yes(1, varX)), rule(atom(4, 3, varX), yes(1, varX))), two, []impl.Step{given(fact(1, 2)), byRule(fact(4, 3, 2), 1, has(-1, 2, -1, -1), 0)}},
		{"an atom twice", growing(rule(atom(3, varW), yes(1, varW), yes(1, varW))), two, []impl.Step{given(fact(1, 2)), byRule(fact(3, 2), 0, has(2, -1, -1, -1), 0, 0)}},
		{"two atoms, one fact", growing(rule(atom(4, varX, varW), yes(1, varW), yes(0), yes(1, varX))), []impl.Fact{fact(0), fact(1, 2)}, []impl.Step{
			given(fact(1, 2)), given(fact(0)), byRule(fact(4, 2, 2), 0, has(2, 2, -1, -1), 0, 1, 0)}},
		{"a step for two", growing(begun, rule(atom(0), yes(3, varW), yes(1, varW))), two, []impl.Step{
			given(fact(1, 2)), byRule(fact(3, 2), 0, has(2, -1, -1, -1), 0), byRule(fact(0), 1, has(2, -1, -1, -1), 1, 0)}},
		{"a step for two, by rules", growing(begun, rule(atom(4, varW, 0), yes(3, varW)), rule(atom(4, varW, 1), yes(3, varW)), rule(atom(0), yes(4, varX, 1), yes(4, varX, 0))), two, []impl.Step{
			given(fact(1, 2)), byRule(fact(3, 2), 0, has(2, -1, -1, -1), 0), byRule(fact(4, 2, 1), 2, has(2, -1, -1, -1), 1), byRule(fact(4, 2, 0), 1, has(2, -1, -1, -1), 1),
			byRule(fact(0), 3, has(-1, 2, -1, -1), 2, 3)}},
		{"the steps of an atom ahead of the next atom", growing(begun, rule(atom(0), yes(3, varW), yes(2, varW, varX))), []impl.Fact{fact(1, 2), fact(2, 2, 4)}, []impl.Step{
			given(fact(1, 2)), byRule(fact(3, 2), 0, has(2, -1, -1, -1), 0), given(fact(2, 2, 4)), byRule(fact(0), 1, has(2, 4, -1, -1), 1, 2)}},
		{"the next atom, in the other order", growing(begun, rule(atom(0), yes(2, varW, varX), yes(3, varW))), []impl.Fact{fact(1, 2), fact(2, 2, 4)}, []impl.Step{
			given(fact(2, 2, 4)), given(fact(1, 2)), byRule(fact(3, 2), 0, has(2, -1, -1, -1), 1), byRule(fact(0), 1, has(2, 4, -1, -1), 0, 2)}},
		{"literals that deny have no step", growing(rule(atom(3, varW), no(2, varW, varX), yes(1, varX), less(varW, varX), yes(1, varW))), []impl.Fact{fact(1, 0), fact(1, 3), fact(2, 3, 0)}, []impl.Step{
			given(fact(1, 3)), given(fact(1, 0)), byRule(fact(3, 0), 0, has(0, 3, -1, -1), 0, 1)}},
		{"of a layer that denies", growing(apartRules()...), edges, []impl.Step{given(fact(2, 2, 3)), byRule(fact(3, 2), 2, has(2, 3, -1, -1), 0)}},
		{"of a layer that denies who denies", growing(apartRules()...), edges, []impl.Step{given(fact(2, 1, 0)), byRule(fact(1, 0), 3, has(1, 0, -1, -1), 0)}},
		{"over layers", growing(append(apartRules(), rule(atom(0), yes(1, varX), yes(3, varY), yes(4, varY, varX)))...), chainOf(2, 2), []impl.Step{
			given(fact(2, 1, 2)), byRule(fact(1, 2), 3, has(1, 2, -1, -1), 0), given(fact(2, 0, 1)), byRule(fact(3, 0), 2, has(0, 1, -1, -1), 2),
			byRule(fact(4, 1, 2), 0, has(1, 2, -1, -1), 0), byRule(fact(4, 0, 2), 1, has(0, 2, 1, -1), 2, 4), byRule(fact(0), 4, has(-1, 2, 0, -1), 1, 3, 5)}},
		{"four atoms, four steps", growing(rule(atom(0), yes(2, varW, varX), yes(2, varX, varY), yes(2, varY, varZ), yes(2, varZ, 5))), chainOf(2, 5), []impl.Step{
			given(fact(2, 1, 2)), given(fact(2, 2, 3)), given(fact(2, 3, 4)), given(fact(2, 4, 5)), byRule(fact(0), 0, has(1, 2, 3, 4), 0, 1, 2, 3)}},
	}
	for _, c := range cases {
		f := c.want[len(c.want)-1].Fact
		if got, ok := impl.ProofOf(c.p, c.db, f); !ok || !sameSteps(got, c.want) {
			t.Errorf("%s: ProofOf(%v) = %v, %v, want %v", c.name, f, got, ok, c.want)
		}
		if !impl.ProofOk(c.p, c.db, c.want) {
			t.Errorf("%s: %v is no proof", c.name, c.want)
		}
	}
}

func TestProofOk(t *testing.T) {
	p := growing(wayRules()...)
	p.Rules = append(p.Rules,
		rule(atom(3, varW), yes(1, varW), no(4, varW, varW), less(varW, 4)),
		rule(atom(0)),
		rule(atom(0), same(varX, varW), yes(2, varW, varX), yes(2, varX, varW)))
	// The ways are 4(0, 1), 4(0, 2), 4(1, 2), 4(2, 2) and 4(3, 3), and 3(1) and 0 are said too.
	db := []impl.Fact{fact(1, 1), fact(1, 2), fact(1, 3), fact(1, 4), fact(2, 0, 1), fact(2, 1, 2), fact(2, 2, 2), fact(2, 3, 3), fact(4, 2, 2)}
	loop := []impl.Step{given(fact(2, 2, 2)), given(fact(4, 2, 2))}
	edges := []impl.Step{given(fact(2, 0, 1)), given(fact(2, 1, 2))}
	way := append(slices.Clone(edges), byRule(fact(4, 1, 2), 0, has(1, 2, -1, -1), 1))
	cases := []struct {
		name string
		list []impl.Step
		want bool
	}{
		{"no step", nil, false},
		{"given", edges, true},
		{"given, empty lists", []impl.Step{{Fact: fact(2, 0, 1), Rule: -1, Bind: []int{}, From: []int{}}}, true},
		{"given twice", slices.Concat(edges, edges), true},
		{"given and said, as given", loop, true},
		{"given and said, as said", append(slices.Clone(loop), byRule(fact(4, 2, 2), 0, has(2, 2, -1, -1), 0)), true},
		{"given and said, as said by itself", append(slices.Clone(loop), byRule(fact(4, 2, 2), 1, has(2, 2, 2, -1), 0, 1)), true},
		{"said, as given", append(slices.Clone(way), given(fact(4, 0, 2))), false},
		{"neither given nor said", []impl.Step{given(fact(2, 5, 5))}, false},
		{"given, of another predicate", []impl.Step{given(fact(3, 2))}, false},
		{"given, of other places", []impl.Step{given(fact(1, 2, 2))}, false},
		{"given, of no predicate", []impl.Step{given(fact(-1)), given(fact(5))}, false},
		{"given, no constant", []impl.Step{given(fact(1, 6))}, false},
		{"given, a variable", []impl.Step{given(fact(1, varW))}, false},
		{"given, and variables have nothing", []impl.Step{{Fact: fact(2, 0, 1), Rule: -1, Bind: nothing()}}, false},
		{"given, and variables have something", []impl.Step{{Fact: fact(2, 0, 1), Rule: -1, Bind: has(0, 1, -1, -1)}}, false},
		{"given, and of a step", append(slices.Clone(edges), impl.Step{Fact: fact(2, 0, 1), Rule: -1, From: []int{0}}), false},
		{"said", way, true},
		{"said, over a step", append(slices.Clone(way), byRule(fact(4, 0, 2), 1, has(0, 2, 1, -1), 0, 2)), true},
		{"said twice", append(slices.Clone(way), way[2]), true},
		{"not needed by the last", append(slices.Clone(way), edges[0]), true},
		{"of a step far ahead", append(slices.Clone(way), edges[0], byRule(fact(4, 1, 2), 0, has(1, 2, -1, -1), 1)), true},
		{"a step that is none, ahead of all", append([]impl.Step{given(fact(2, 5, 5)), given(fact(2, 1, 2))}, byRule(fact(4, 1, 2), 0, has(1, 2, -1, -1), 1)), false},
		{"a step that is none, not needed", append(slices.Clone(way), given(fact(2, 5, 5)), way[2]), false},
		{"a step that is none, behind all", append(slices.Clone(way), given(fact(2, 5, 5))), false},
		{"a fact that is none, of a step that is none", []impl.Step{given(fact(2, 5, 5)), byRule(fact(4, 5, 5), 0, has(5, 5, -1, -1), 0)}, false},
		{"not of the rule", append(slices.Clone(edges), byRule(fact(4, 1, 2), 1, has(1, 2, -1, -1), 1)), false},
		{"a rule below all", append(slices.Clone(edges), byRule(fact(4, 1, 2), -2, has(1, 2, -1, -1), 1)), false},
		{"the least number as a rule", append(slices.Clone(edges), byRule(fact(4, 1, 2), math.MinInt, nil)), false},
		{"a rule past the end", append(slices.Clone(edges), byRule(fact(4, 1, 2), 5, has(1, 2, -1, -1), 1)), false},
		{"the greatest number as a rule", append(slices.Clone(edges), byRule(fact(4, 1, 2), math.MaxInt, has(1, 2, -1, -1), 1)), false},
		{"another fact than the head", append(slices.Clone(edges), byRule(fact(4, 0, 2), 0, has(1, 2, -1, -1), 1)), false},
		{"another predicate than the head", append(slices.Clone(edges), byRule(fact(2, 1, 2), 0, has(1, 2, -1, -1), 1)), false},
		{"fewer places than the head", append(slices.Clone(edges), byRule(fact(4, 1), 0, has(1, 2, -1, -1), 1)), false},
		{"more places than the head", append(slices.Clone(edges), byRule(fact(4, 1, 2, 2), 0, has(1, 2, -1, -1), 1)), false},
		{"the fact of another edge", append(slices.Clone(edges), byRule(fact(4, 0, 1), 0, has(0, 1, -1, -1), 1)), false},
		{"of another edge", append(slices.Clone(edges), byRule(fact(4, 1, 2), 0, has(1, 2, -1, -1), 0)), false},
		{"of a way for an edge", append(slices.Clone(way), byRule(fact(4, 1, 2), 0, has(1, 2, -1, -1), 2)), false},
		{"of an edge for a way", append(slices.Clone(way), byRule(fact(4, 0, 2), 1, has(0, 2, 1, -1), 0, 1)), false},
		{"of the steps in another order", append(slices.Clone(way), byRule(fact(4, 0, 2), 1, has(0, 2, 1, -1), 2, 0)), false},
		{"of no steps", append(slices.Clone(edges), byRule(fact(4, 1, 2), 0, has(1, 2, -1, -1))), false},
		{"of a step too few", append(slices.Clone(way), byRule(fact(4, 0, 2), 1, has(0, 2, 1, -1), 0)), false},
		{"of a step too many", append(slices.Clone(edges), byRule(fact(4, 1, 2), 0, has(1, 2, -1, -1), 1, 0)), false},
		{"of a step twice", append(slices.Clone(edges), byRule(fact(4, 1, 2), 0, has(1, 2, -1, -1), 1, 1)), false},
		{"of itself", append(slices.Clone(loop[:1]), byRule(fact(4, 2, 2), 1, has(2, 2, 2, -1), 0, 1)), false},
		{"of itself, given ahead", append(slices.Clone(loop), byRule(fact(4, 2, 2), 1, has(2, 2, 2, -1), 0, 2)), false},
		{"of the step behind", append(slices.Clone(loop[:1]), byRule(fact(4, 2, 2), 1, has(2, 2, 2, -1), 0, 2), loop[1]), false},
		{"of a given step behind", []impl.Step{byRule(fact(4, 1, 2), 0, has(1, 2, -1, -1), 1), edges[1]}, false},
		{"two of each other", []impl.Step{loop[0], byRule(fact(4, 2, 2), 1, has(2, 2, 2, -1), 0, 2), byRule(fact(4, 2, 2), 1, has(2, 2, 2, -1), 0, 1)}, false},
		{"of a step below all", append(slices.Clone(edges), byRule(fact(4, 1, 2), 0, has(1, 2, -1, -1), -1)), false},
		{"of the least number", append(slices.Clone(edges), byRule(fact(4, 1, 2), 0, has(1, 2, -1, -1), math.MinInt)), false},
		{"of a step past the end", append(slices.Clone(edges), byRule(fact(4, 1, 2), 0, has(1, 2, -1, -1), 3)), false},
		{"of the greatest number", append(slices.Clone(edges), byRule(fact(4, 1, 2), 0, has(1, 2, -1, -1), math.MaxInt)), false},
		{"a variable that has nothing", append(slices.Clone(way), byRule(fact(4, 0, 2), 1, has(0, 2, -1, -1), 0, 2)), false},
		{"a variable of the head that has nothing", append(slices.Clone(edges), byRule(fact(4, 1, 2), 0, has(1, -1, -1, -1), 1)), false},
		{"a variable that has something else", append(slices.Clone(way), byRule(fact(4, 0, 2), 1, has(0, 2, 2, -1), 0, 2)), false},
		{"other variables have something", append(slices.Clone(edges), byRule(fact(4, 1, 2), 0, has(1, 2, 0, 5), 1)), true},
		{"without a body", []impl.Step{byRule(fact(0), 3, nothing())}, true},
		{"without a body, what variables have is not told", []impl.Step{byRule(fact(0), 3, nil)}, false},
		{"without a body, of a step", append(slices.Clone(edges), byRule(fact(0), 3, nothing(), 0)), false},
		{"without a body, another fact", []impl.Step{byRule(fact(1, 1), 3, nothing())}, false},
		{"denied, and not said", []impl.Step{given(fact(1, 1)), byRule(fact(3, 1), 2, has(1, -1, -1, -1), 0)}, true},
		{"denied, and given", []impl.Step{given(fact(1, 2)), byRule(fact(3, 2), 2, has(2, -1, -1, -1), 0)}, false},
		{"denied, and said, of no step", []impl.Step{given(fact(1, 3)), byRule(fact(3, 3), 2, has(3, -1, -1, -1), 0)}, false},
		{"denied, of a step", []impl.Step{given(fact(1, 1)), given(fact(1, 1)), byRule(fact(3, 1), 2, has(1, -1, -1, -1), 0, 1)}, false},
		{"not less", []impl.Step{given(fact(1, 4)), byRule(fact(3, 4), 2, has(4, -1, -1, -1), 0)}, false},
		{"the same", []impl.Step{loop[0], byRule(fact(0), 4, has(2, 2, -1, -1), 0, 0)}, true},
		{"the same, of two steps", []impl.Step{loop[0], loop[0], byRule(fact(0), 4, has(2, 2, -1, -1), 1, 0)}, true},
		{"not the same", append(slices.Clone(edges), byRule(fact(0), 4, has(1, 2, -1, -1), 1, 1)), false},
	}
	for _, c := range cases {
		if got := impl.ProofOk(p, db, c.list); got != c.want {
			t.Errorf("%s: ProofOk(%v) = %v", c.name, c.list, got)
		}
	}
	for name, bind := range noBinds() {
		if impl.ProofOk(p, db, append(slices.Clone(edges), byRule(fact(4, 1, 2), 0, bind, 1))) || impl.ProofOk(p, db, []impl.Step{byRule(fact(0), 3, bind)}) {
			t.Errorf("what variables have is %s: a proof", name)
		}
	}
}

func TestProofsOfWhatIsNone(t *testing.T) {
	two := []impl.Fact{fact(1, 2)}
	for name, p := range noPrograms() {
		checkNoProofs(t, name, p, nil)
		checkNoProofs(t, name, p, two)
	}
	for name, list := range noLists() {
		for _, p := range []impl.Program{growing(), growing(rule(atom(3, varW), yes(1, varW), no(0)), rule(atom(1, 2)))} {
			checkNoProofs(t, name, p, list)
		}
	}
	checkNoProofs(t, "facts of no predicates", impl.Program{}, []impl.Fact{{}})
	for _, p := range noLayers() {
		checkNoProofs(t, "without layers", p, nil)
		checkNoProofs(t, "without layers", p, []impl.Fact{fact(1, 2), fact(2, 1, 2), fact(2, 2, 3)})
	}
}

// checkNoProofs checks that nothing has a proof, not even what is given.
func checkNoProofs(t *testing.T, name string, p impl.Program, db []impl.Fact) {
	t.Helper()
	for _, f := range append(slices.Clone(db), fact(0), fact(1, 2), fact(3, 2)) {
		checkUnproved(t, name, p, db, f)
		for _, list := range [][]impl.Step{nil, {given(f)}, {given(fact(1, 2)), byRule(fact(3, 2), 0, has(2, -1, -1, -1), 0)}, {byRule(f, 1, nothing())}} {
			if impl.ProofOk(p, db, list) {
				t.Errorf("%s: %v is a proof", name, list)
			}
		}
	}
}

func checkUnproved(t *testing.T, name string, p impl.Program, db []impl.Fact, f impl.Fact) {
	t.Helper()
	if got, ok := impl.ProofOf(p, db, f); ok || len(got) != 0 {
		t.Fatalf("%s: ProofOf(%v, %v, %v) = %v, %v", name, p, db, f, got, ok)
	}
}

func TestProofOfWhatIsNotSaid(t *testing.T) {
	p := growing(append(apartRules(), rule(atom(0), yes(1, 5)), rule(atom(1, 1), yes(0)))...)
	for _, f := range []impl.Fact{
		fact(0), fact(1, 1), fact(3, 2), fact(4, 2, 0), fact(2, 0, 2), fact(2, 1), fact(2, 0, 1, 0), fact(2), fact(0, 0), fact(1), fact(4, 0), fact(5, 0, 1), fact(-1), fact(24),
		fact(1, 6), fact(1, -1), fact(1, math.MaxInt), fact(4, 0, 6), fact(4, -1, 7), fact(math.MaxInt, 0), fact(math.MinInt, 0),
	} {
		checkUnproved(t, "not said", p, chainOf(2, 2), f)
	}
	checkUnproved(t, "no predicates", impl.Program{}, nil, impl.Fact{})
}

// The eighth promise, for programs of a table: proofs are those that a model writes which tries all solutions, each is one that
// a model finds no fault with, and what rules do not say has none.
func TestProofsAgainstPlainOnes(t *testing.T) {
	table := modelRules()
	next := numbersFrom(8)
	counts := map[bool]int{}
	for range 300 {
		p := growing()
		for range 3 + next(5) {
			p.Rules = append(p.Rules, table[next(len(table))])
		}
		layers, ok := impl.LayersOf(p)
		for _, db := range growLists() {
			if !ok {
				checkNoProofs(t, "without layers", p, db)
				continue
			}
			prover := newPlainProver(p, db, layers)
			for _, f := range allOf(p.Arity) {
				if !plainHas(prover.model, f) {
					checkUnproved(t, "not said", p, db, f)
					continue
				}
				checkProof(t, prover, f)
			}
			for right, count := range countChanged(t, prover, next) {
				counts[right] += count
			}
		}
	}
	if counts[true] < 500 || counts[false] < 500 {
		t.Errorf("%d changed proofs are ones, and %d none", counts[true], counts[false])
	}
}

// checkProof checks the proof of a fact that rules say, and all parts of it.
func checkProof(t *testing.T, prover *plainProver, f impl.Fact) {
	t.Helper()
	p, db := prover.p, prover.db
	want := prover.proof(f)
	got, ok := impl.ProofOf(p, db, f)
	if !ok || !sameSteps(got, want) {
		t.Fatalf("ProofOf(%v, %v, %v) = %v, %v, want %v", p, db, f, got, ok, want)
	}
	if !prover.proves(got) || !impl.ProofOk(p, db, got) {
		t.Fatalf("ProofOf(%v, %v, %v) = %v is no proof", p, db, f, got)
	}
	if uses := impl.ProofUses(got); !within(uses, db) || !ascending(uses) {
		t.Fatalf("ProofUses(%v) = %v, but %v is given", got, uses, db)
	}
	if impl.Positive(p) && !plainHas(impl.Least(p, impl.ProofUses(got)), f) {
		t.Fatalf("what %v uses is not enough for %v", got, f)
	}
	deep := impl.ProofDeep(got)
	if stage := impl.StageOf(p, db, f); deep > stage || (deep == 0) != (len(got) == 1) {
		t.Fatalf("ProofDeep(%v) = %d, but StageOf %d", got, deep, stage)
	}
	for at, s := range got {
		part, ok := impl.ProofCut(got, at)
		if !ok || !impl.ProofOk(p, db, part) || !sameFact(part[len(part)-1].Fact, s.Fact) || !sameSteps(byFact(part), byFact(prover.proof(s.Fact))) {
			t.Fatalf("ProofCut(%v, %d) = %v, %v", got, at, part, ok)
		}
	}
}

// countChanged changes steps of proofs here and there, and counts how many are proofs then, and how many are not.
func countChanged(t *testing.T, prover *plainProver, next func(int) int) map[bool]int {
	t.Helper()
	counts := map[bool]int{}
	for range 12 {
		if len(prover.model) == 0 {
			break
		}
		list := prover.proof(prover.model[next(len(prover.model))])
		for range 1 + next(2) {
			list = changedSteps(list, len(prover.p.Rules), next)
		}
		want := prover.proves(list)
		counts[want]++
		if got := impl.ProofOk(prover.p, prover.db, list); got != want {
			t.Fatalf("ProofOk(%v, %v, %v) = %v", prover.p, prover.db, list, got)
		}
		for _, s := range list {
			if want && !plainHas(prover.model, s.Fact) {
				t.Fatalf("%v has a proof, but is not said", s.Fact)
			}
		}
	}
	return counts
}

// changedSteps returns steps, one of which is changed, or stands elsewhere, or stands once more behind all.
func changedSteps(list []impl.Step, rules int, next func(int) int) []impl.Step {
	out := copySteps(list)
	s := &out[next(len(out))]
	switch next(9) {
	case 0:
		s.Fact = fact(next(len(growPlaces)), s.Fact.Args...)
	case 1:
		if len(s.Fact.Args) > 0 {
			s.Fact.Args[next(len(s.Fact.Args))] = next(6)
		}
	case 2:
		s.Rule = next(rules+3) - 2
	case 3:
		if len(s.Bind) > 0 {
			s.Bind[next(len(s.Bind))] = next(9) - 2
		}
	case 4:
		s.Bind = slices.Concat(s.Bind, nothing())[:4]
	case 5:
		if len(s.From) > 0 {
			s.From[next(len(s.From))] = next(len(out)+2) - 1
		}
	case 6:
		s.From = append(s.From, next(len(out)))
	case 7:
		other := &out[next(len(out))]
		*s, *other = *other, *s
	case 8:
		out = append(out, copySteps([]impl.Step{*s})...)
	}
	return out
}

// The eighth promise without ProofOf, for programs of two predicates without places, and of three in which none asks another one
// in both ways, all that have layers and some that have none: steps that keep a proof one are put behind it till there are no
// more, and tell what rules say.
func TestProofsTellWhatRulesSay(t *testing.T) {
	check := func(preds int, kinds int) {
		for n := range power(kinds, preds*preds) {
			p := programOfNumber(preds, kinds, n)
			if _, ok := impl.LayersOf(p); !ok && n%16 != 0 {
				continue
			}
			for m := range 1 << preds {
				db := pick(allOf(p.Arity), m)
				model, _ := impl.Model(p, db)
				var told []impl.Fact
				for _, s := range longestProof(p, db) {
					told = append(told, s.Fact)
				}
				if told = union(nil, told); !sameFacts(told, model) {
					t.Fatalf("with %v and %v there are proofs of %v, but Model is %v", p, db, told, model)
				}
				for _, f := range allOf(p.Arity) {
					if _, ok := impl.ProofOf(p, db, f); ok != plainHas(model, f) {
						t.Fatalf("ProofOf(%v, %v, %v) is told to be there: %v", p, db, f, ok)
					}
				}
			}
		}
	}
	check(2, 4)
	check(3, 3)
}

// longestProof returns a proof of facts without places to which no step of another fact can be put, or nothing.
func longestProof(p impl.Program, db []impl.Fact) []impl.Step {
	var list []impl.Step
	for range p.Arity {
		for pred := range p.Arity {
			if slices.ContainsFunc(list, func(s impl.Step) bool { return s.Fact.Pred == pred }) {
				continue
			}
			for r := range len(p.Rules) + 1 {
				next := given(fact(pred))
				if r > 0 {
					next = byRule(fact(pred), r-1, nothing(), stepsFor(list, p.Rules[r-1].Body)...)
				}
				if longer := append(slices.Clone(list), next); impl.ProofOk(p, db, longer) {
					list = longer
					break
				}
			}
		}
	}
	return list
}

// stepsFor returns for each atom without places that is to hold the step that tells it, or -1.
func stepsFor(list []impl.Step, body []impl.Lit) []int {
	var from []int
	for _, l := range body {
		if l.Kind == impl.LitYes {
			from = append(from, slices.IndexFunc(list, func(s impl.Step) bool { return s.Fact.Pred == l.Atom.Pred }))
		}
	}
	return from
}

func TestProofsOfManySteps(t *testing.T) {
	db := append(chainOf(0, 5), fact(1, 0, 0))
	cases := []struct {
		name  string
		p     impl.Program
		fact  impl.Fact
		steps int
		deep  int
	}{
		{"one layer", counting(20), fact(20, 5, 5), 5 + 20*36, 20*36 - 1},
		{"one layer, between", counting(20), fact(11, 2, 3), 5 + 10*36 + 16, 10*36 + 15},
		{"many layers", countingByLayers(11), fact(21, 5, 5), 5 + 36, 35},
		{"many layers, what tells the end", countingByLayers(11), fact(20, 1, 2), 0, -1},
	}
	for _, c := range cases {
		list, ok := impl.ProofOf(c.p, db, c.fact)
		if len(list) != c.steps || ok != (c.steps > 0) || impl.ProofDeep(list) != c.deep {
			t.Errorf("%s: ProofOf has %d steps, %v, and ProofDeep is %d", c.name, len(list), ok, impl.ProofDeep(list))
		}
		if !ok {
			continue
		}
		if !impl.ProofOk(c.p, db, list) || !sameFact(list[len(list)-1].Fact, c.fact) || !within(impl.ProofUses(list), db) {
			t.Errorf("%s: ProofOf is none", c.name)
		}
		if part, ok := impl.ProofCut(list, len(list)-1); !ok || !sameSteps(part, list) {
			t.Errorf("%s: ProofCut of the last step has %d of %d steps", c.name, len(part), len(list))
		}
	}
}

// As many predicates, rules and literals as there may be.
func TestProofsOfAllLayers(t *testing.T) {
	p := denyingAll()
	db := impl.AllFacts(0, 2)
	want := []impl.Step{given(fact(0, 3, 0)), given(fact(0, 4, 0)), given(fact(0, 3, 4)), byRule(fact(22, 3, 4), 21, has(3, 4, 0, 0), 0, 1, 2)}
	if got, ok := impl.ProofOf(p, db, fact(22, 3, 4)); !ok || !sameSteps(got, want) || !impl.ProofOk(p, db, got) {
		t.Errorf("ProofOf = %v, %v, want %v", got, ok, want)
	}
	checkUnproved(t, "denied", p, db, fact(23, 3, 4))
	p.Rules = append(p.Rules, p.Rules[0])
	checkNoProofs(t, "a rule too many", p, db)
}

// stepOf is a step of which just From matters.
func stepOf(from ...int) impl.Step {
	return impl.Step{Fact: fact(-7, 99), Rule: math.MinInt, Bind: []int{8}, From: from}
}

func TestProofDeep(t *testing.T) {
	cases := []struct {
		name string
		list []impl.Step
		want int
	}{
		{"no step", nil, -1},
		{"without From", []impl.Step{stepOf()}, 0},
		{"the last without From", []impl.Step{stepOf(), stepOf(0), stepOf(1), stepOf()}, 0},
		{"of one without From", []impl.Step{stepOf(), stepOf(0)}, 1},
		{"each of the one ahead", []impl.Step{stepOf(), stepOf(0), stepOf(1), stepOf(2)}, 3},
		{"all of the first", []impl.Step{stepOf(), stepOf(0), stepOf(0), stepOf(0)}, 1},
		{"the deepest is the first", []impl.Step{stepOf(), stepOf(0), stepOf(1), stepOf(2, 0, 1)}, 3},
		{"the deepest is the last", []impl.Step{stepOf(), stepOf(0), stepOf(1), stepOf(0, 1, 2)}, 3},
		{"the deepest is between", []impl.Step{stepOf(), stepOf(0), stepOf(1), stepOf(0, 2, 1)}, 3},
		{"the deepest is not needed", []impl.Step{stepOf(), stepOf(0), stepOf(1), stepOf(0)}, 1},
		{"twice of one", []impl.Step{stepOf(), stepOf(0, 0, 0), stepOf(1, 1)}, 2},
		{"given, and of a step", []impl.Step{given(fact(0)), {Rule: -1, From: []int{0}}}, 1},
		{"by a rule, and of none", []impl.Step{given(fact(0)), byRule(fact(0), 3, nothing())}, 0},
	}
	for _, c := range cases {
		if got := impl.ProofDeep(c.list); got != c.want {
			t.Errorf("%s: ProofDeep(%v) = %d", c.name, c.list, got)
		}
	}
}

// A step names none ahead wherever it stands, and the steps that are asked for may not need it.
func TestStepsThatNameNoneAhead(t *testing.T) {
	for _, at := range numbersTo(4) {
		for _, from := range []int{-1, at, at + 1, 3, 4, math.MaxInt, math.MinInt} {
			if from >= 0 && from < at {
				continue
			}
			for place := range 3 {
				list := []impl.Step{stepOf(), stepOf(0), stepOf(0, 1), stepOf(0, 2)}
				list[at].From = slices.Insert(list[at].From, min(place, len(list[at].From)), from)
				if got := impl.ProofDeep(list); got != -1 {
					t.Errorf("ProofDeep(%v) = %d", list, got)
				}
				for cut := range list {
					if got, ok := impl.ProofCut(list, cut); ok || len(got) != 0 {
						t.Errorf("ProofCut(%v, %d) = %v, %v", list, cut, got, ok)
					}
				}
			}
		}
	}
}

func TestProofUses(t *testing.T) {
	cases := []struct {
		name string
		list []impl.Step
		want []impl.Fact
	}{
		{"no step", nil, nil},
		{"given", []impl.Step{given(fact(2, 1, 2))}, []impl.Fact{fact(2, 1, 2)}},
		{"in order", []impl.Step{given(fact(2, 1, 2)), given(fact(1, 5)), given(fact(2, 1, 0)), given(fact(0))}, []impl.Fact{fact(0), fact(1, 5), fact(2, 1, 0), fact(2, 1, 2)}},
		{"each once", []impl.Step{given(fact(1, 5)), given(fact(1, 2)), given(fact(1, 5)), given(fact(1, 5)), given(fact(1, 2))}, []impl.Fact{fact(1, 2), fact(1, 5)}},
		{"not by rules", []impl.Step{given(fact(1, 5)), byRule(fact(1, 2), 0, nothing()), byRule(fact(1, 3), -2, nil), byRule(fact(1, 4), math.MinInt, nil)}, []impl.Fact{fact(1, 5)}},
		{"by rules alone", []impl.Step{byRule(fact(1, 2), 0, nothing())}, nil},
		{"given and by a rule", []impl.Step{byRule(fact(1, 2), 0, nothing()), given(fact(1, 2))}, []impl.Fact{fact(1, 2)}},
		{"not needed by the last", []impl.Step{given(fact(1, 5)), given(fact(1, 2)), byRule(fact(0), 0, nothing(), 1)}, []impl.Fact{fact(1, 2), fact(1, 5)}},
		{"facts that are none", []impl.Step{given(fact(99, 7, -7, 7)), given(fact(-3)), given(fact(99, 7, -7)), given(fact(math.MinInt, math.MaxInt))},
			[]impl.Fact{fact(math.MinInt, math.MaxInt), fact(-3), fact(99, 7, -7), fact(99, 7, -7, 7)}},
		{"what is no proof", []impl.Step{{Fact: fact(1, 2), Rule: -1, Bind: []int{9}, From: []int{0, 7, -1}}}, []impl.Fact{fact(1, 2)}},
	}
	for _, c := range cases {
		if got := impl.ProofUses(c.list); !sameFacts(got, c.want) {
			t.Errorf("%s: ProofUses(%v) = %v", c.name, c.list, got)
		}
	}
}

func TestProofCut(t *testing.T) {
	// The step with an index has that as its fact's constant.
	step := func(c int, from ...int) impl.Step {
		return impl.Step{Fact: fact(1, c), Rule: 10 * c, Bind: []int{c, 70, -c}, From: from}
	}
	list := []impl.Step{step(0), step(1), step(2, 1), step(3, 0, 0), step(4, 2, 1, 2), step(5), step(6, 5, 4), step(7, 3, 6, 0)}
	cases := []struct {
		at   int
		want []impl.Step
	}{
		{0, []impl.Step{step(0)}},
		{1, []impl.Step{step(1)}},
		{2, []impl.Step{step(1), step(2, 0)}},
		{3, []impl.Step{step(0), step(3, 0, 0)}},
		{4, []impl.Step{step(1), step(2, 0), step(4, 1, 0, 1)}},
		{5, []impl.Step{step(5)}},
		{6, []impl.Step{step(1), step(2, 0), step(4, 1, 0, 1), step(5), step(6, 3, 2)}},
		{7, list},
	}
	for _, c := range cases {
		if got, ok := impl.ProofCut(list, c.at); !ok || !sameSteps(got, c.want) {
			t.Errorf("ProofCut at %d = %v, %v, want %v", c.at, got, ok, c.want)
		}
	}
	for _, at := range []int{-1, 8, 9, math.MaxInt, math.MinInt} {
		if got, ok := impl.ProofCut(list, at); ok || len(got) != 0 {
			t.Errorf("ProofCut at %d = %v, %v", at, got, ok)
		}
	}
	for _, at := range []int{0, -1} {
		if got, ok := impl.ProofCut(nil, at); ok || len(got) != 0 {
			t.Errorf("ProofCut of no steps at %d = %v, %v", at, got, ok)
		}
	}
}

// Lists of steps that name any ones ahead are held against models that go back from step to step.
func TestStepsAgainstPlainOnes(t *testing.T) {
	next := numbersFrom(88)
	for range 2000 {
		var list []impl.Step
		for i := range 1 + next(9) {
			s := stepOf()
			s.Fact, s.Rule = fact(next(3), i), next(3)-1
			for range min(i, next(4)) {
				s.From = append(s.From, next(i))
			}
			list = append(list, s)
		}
		if got, want := impl.ProofDeep(list), plainDeep(list, len(list)-1); got != want {
			t.Fatalf("ProofDeep(%v) = %d, want %d", list, got, want)
		}
		var uses []impl.Fact
		for at, s := range list {
			if got, ok := impl.ProofCut(list, at); !ok || !sameSteps(got, plainCut(list, at)) {
				t.Fatalf("ProofCut(%v, %d) = %v, %v", list, at, got, ok)
			}
			if s.Rule == -1 {
				uses = plainWith(uses, s.Fact)
			}
		}
		if got := impl.ProofUses(list); !sameFacts(got, uses) {
			t.Fatalf("ProofUses(%v) = %v, want %v", list, got, uses)
		}
	}
}

// So many steps, each twice of the one ahead, that ways back to the first are not to be told one by one.
func TestStepsOfManyWays(t *testing.T) {
	list := []impl.Step{stepOf()}
	for at := range 20000 {
		list = append(list, stepOf(at, at))
	}
	if got := impl.ProofDeep(list); got != 20000 {
		t.Errorf("ProofDeep = %d", got)
	}
	if got, ok := impl.ProofCut(list, 15000); !ok || !sameSteps(got, list[:15001]) {
		t.Errorf("ProofCut has %d steps, %v", len(got), ok)
	}
}

func TestProofsNilIsEmpty(t *testing.T) {
	none := [][]int{nil, {}}
	for _, list := range [][]impl.Step{nil, {}} {
		got, ok := impl.ProofCut(list, 0)
		if impl.ProofOk(impl.Program{}, nil, list) || impl.ProofDeep(list) != -1 || len(impl.ProofUses(list)) != 0 || ok || len(got) != 0 {
			t.Errorf("of no steps there is something")
		}
	}
	for _, args := range none {
		for _, others := range none {
			for _, numbers := range none {
				p := programWith([]int{0, 0, 0}, impl.Rule{Head: impl.Atom{Pred: 1, Args: args}, Body: []impl.Lit{{Atom: impl.Atom{Args: others}}}}, impl.Rule{Head: impl.Atom{Pred: 2, Args: args}})
				db := []impl.Fact{{Args: others}}
				want := []impl.Step{{Fact: impl.Fact{Args: args}, Rule: -1, Bind: numbers, From: numbers}, byRule(impl.Fact{Pred: 1, Args: others}, 0, nothing(), 0), {Fact: impl.Fact{Pred: 2, Args: numbers}, Rule: 1, Bind: nothing(), From: numbers}}
				if got, ok := impl.ProofOf(p, db, impl.Fact{Pred: 1, Args: numbers}); !ok || !sameSteps(got, want[:2]) {
					t.Errorf("ProofOf = %v, %v", got, ok)
				}
				if got, ok := impl.ProofOf(p, db, impl.Fact{Pred: 2, Args: others}); !ok || !sameSteps(got, want[2:]) {
					t.Errorf("ProofOf = %v, %v", got, ok)
				}
				if !impl.ProofOk(p, db, want) || impl.ProofDeep(want) != 0 || len(impl.ProofUses(want)) != 1 {
					t.Errorf("%v is no proof", want)
				}
				if got, ok := impl.ProofCut(want, 1); !ok || !sameSteps(got, want[:2]) {
					t.Errorf("ProofCut = %v, %v", got, ok)
				}
			}
		}
	}
}

func TestProofsArgumentsAreNotChanged(t *testing.T) {
	table := modelRules()
	for i := range table {
		p := roomyProgram(growing(table[i], table[(i+1)%len(table)], table[(i+5)%len(table)]))
		for _, given := range growLists() {
			db := roomy(given)
			model, _ := impl.Model(p, given)
			wantProgram, wantList := programNumbers(p), deepCopy(whole(db))
			for _, f := range append(model, fact(4, 0, 2), fact(7)) {
				f = fact(f.Pred, roomyNumbers(f.Args)...)
				list, _ := impl.ProofOf(p, db, f)
				list = roomySteps(append(list, stepOf(0), impl.Step{Fact: f, Rule: -1}))
				wantFact, wantSteps := slices.Clone(f.Args[:cap(f.Args)]), stepNumbers(list)
				impl.ProofOf(p, db, f)
				impl.ProofOk(p, db, list[:len(list)-2])
				impl.ProofOk(p, db, list)
				impl.ProofDeep(list)
				impl.ProofUses(list)
				impl.ProofCut(list, len(list)-2)
				if !sameFacts(whole(db), wantList) || !slices.Equal(programNumbers(p), wantProgram) || !slices.Equal(f.Args[:cap(f.Args)], wantFact) || !slices.Equal(stepNumbers(list), wantSteps) {
					t.Fatalf("an argument is changed by %v of %v", p, f)
				}
			}
		}
	}
}

func TestProofsShareNothing(t *testing.T) {
	p := roomyProgram(growing(append(apartRules(), rule(atom(0), yes(1, varX), yes(3, varY), yes(4, varY, varX)))...))
	db := roomy(chainOf(2, 2))
	f := fact(4, roomyNumbers([]int{0, 2})...)
	edge := fact(2, roomyNumbers([]int{1, 2})...)
	list, _ := impl.ProofOf(p, db, fact(0))
	list = roomySteps(list)
	numbers := func() []int {
		out := slices.Concat(programNumbers(p), stepNumbers(list), f.Args[:cap(f.Args)], edge.Args[:cap(edge.Args)])
		for _, given := range whole(db) {
			out = append(append(out, given.Pred), given.Args...)
		}
		return out
	}
	before := numbers()
	unchanged := func() bool { return slices.Equal(numbers(), before) }
	calls := map[string]func() []impl.Step{
		"ProofOf":         func() []impl.Step { got, _ := impl.ProofOf(p, db, fact(0)); return got },
		"ProofOf a way":   func() []impl.Step { got, _ := impl.ProofOf(p, db, f); return got },
		"ProofOf an edge": func() []impl.Step { got, _ := impl.ProofOf(p, db, edge); return got },
		"ProofCut":        func() []impl.Step { got, _ := impl.ProofCut(list, 5); return got },
		"ProofCut of all": func() []impl.Step { got, _ := impl.ProofCut(list, len(list)-1); return got },
		"ProofCut of one": func() []impl.Step { got, _ := impl.ProofCut(list, 0); return got },
		"ProofCut of lists": func() []impl.Step {
			got, _ := impl.ProofCut([]impl.Step{{Fact: f, Rule: -1, Bind: f.Args, From: f.Args[:0]}}, 0)
			return got
		},
	}
	for name, call := range calls {
		checkStepsApart(t, name, call, unchanged)
	}
	checkCallsApart(t, map[string]func() []impl.Fact{
		"ProofUses":            func() []impl.Fact { return impl.ProofUses(list) },
		"ProofUses of one":     func() []impl.Fact { return impl.ProofUses(list[:1]) },
		"ProofUses, one twice": func() []impl.Fact { return impl.ProofUses([]impl.Step{list[0], list[0]}) },
	}, unchanged)
}

// checkStepsApart writes to what a call returns, and checks that this changes no other result, and no argument, and that no two
// lists of the result share memory.
func checkStepsApart(t *testing.T, name string, call func() []impl.Step, unchanged func() bool) {
	t.Helper()
	first, second := call(), call()
	want := copySteps(first)
	if len(want) == 0 {
		t.Fatalf("%s is nothing here", name)
	}
	checkNumbersApart(t, stepLists(call()))
	for _, list := range stepLists(first) {
		fill(list[:cap(list)])
	}
	first = first[:cap(first)]
	for i := range first {
		first[i] = stepOf(-77)
	}
	if !sameSteps(second, want) || !sameSteps(call(), want) {
		t.Errorf("writing to %s changes another result", name)
	}
	if !unchanged() {
		t.Fatalf("writing to %s changes an argument", name)
	}
}

// plainProver writes proofs of what rules say by trying all solutions of all rules.
type plainProver struct {
	p         impl.Program
	db        []impl.Fact
	lists     [][]impl.Fact // what each round brings
	model     []impl.Fact
	solutions [][][]int // for each rule those of its body
}

func newPlainProver(p impl.Program, db []impl.Fact, layers []int) *plainProver {
	prover := &plainProver{p: p, db: db, lists: plainFresh(p, db, layers), model: plainModel(p, db, layers)}
	for _, r := range p.Rules {
		prover.solutions = append(prover.solutions, plainSolutions(prover.model, r.Body))
	}
	return prover
}

func (prover *plainProver) proof(f impl.Fact) []impl.Step {
	var list []impl.Step
	prover.tell(&list, f)
	return list
}

// tell returns the index of the step of a fact, which it puts behind a list, and those that it needs ahead of it, if it is not there.
func (prover *plainProver) tell(list *[]impl.Step, f impl.Fact) int {
	at := slices.IndexFunc(*list, func(s impl.Step) bool { return sameFact(s.Fact, f) })
	if at >= 0 {
		return at
	}
	s, atoms := prover.step(f)
	for _, atom := range atoms {
		s.From = append(s.From, prover.tell(list, atom))
	}
	*list = append(*list, s)
	return len(*list) - 1
}

// step returns the step of a fact without its From, and the facts that it is of.
func (prover *plainProver) step(f impl.Fact) (impl.Step, []impl.Fact) {
	if plainHas(prover.db, f) {
		return given(f), nil
	}
	for i, r := range prover.p.Rules {
		for _, bind := range prover.solutions[i] {
			atoms := plainAtoms(r.Body, bind)
			later := func(other impl.Fact) bool { return prover.stage(other) >= prover.stage(f) }
			if sameFact(plainFact(r.Head, bind), f) && !slices.ContainsFunc(atoms, later) {
				return byRule(f, i, bind), atoms
			}
		}
	}
	return impl.Step{}, nil
}

func (prover *plainProver) stage(f impl.Fact) int {
	return slices.IndexFunc(prover.lists, func(list []impl.Fact) bool { return plainHas(list, f) })
}

// proves reports whether steps are a proof.
func (prover *plainProver) proves(list []impl.Step) bool {
	for i, s := range list {
		if s.Rule == -1 && len(s.Bind) == 0 && len(s.From) == 0 && plainHas(prover.db, s.Fact) {
			continue
		}
		if s.Rule < 0 || s.Rule >= len(prover.p.Rules) || !areBinds(s.Bind) {
			return false
		}
		var from []impl.Fact
		for _, at := range s.From {
			if at < 0 || at >= i {
				return false
			}
			from = append(from, list[at].Fact)
		}
		r := prover.p.Rules[s.Rule]
		fails := func(l impl.Lit) bool { return !plainHolds(prover.model, l, s.Bind) }
		if slices.ContainsFunc(r.Body, fails) || !sameFacts(from, plainAtoms(r.Body, s.Bind)) || !sameFact(plainFact(r.Head, s.Bind), s.Fact) {
			return false
		}
	}
	return len(list) > 0
}

func areBinds(bind []int) bool {
	return len(bind) == 4 && !slices.ContainsFunc(bind, func(c int) bool { return c < -1 || c > 5 })
}

// plainFact returns what an atom is, all variables of which have something.
func plainFact(a impl.Atom, bind []int) impl.Fact {
	values, _ := plainValues(a.Args, bind)
	return fact(a.Pred, values...)
}

// plainAtoms returns what the atoms that are to hold are.
func plainAtoms(body []impl.Lit, bind []int) []impl.Fact {
	var out []impl.Fact
	for _, l := range body {
		if l.Kind == impl.LitYes {
			out = append(out, plainFact(l.Atom, bind))
		}
	}
	return out
}

func plainDeep(list []impl.Step, at int) int {
	deep := 0
	for _, from := range list[at].From {
		deep = max(deep, 1+plainDeep(list, from))
	}
	return deep
}

// plainCut takes, again and again, the last step that no other one needs out of those up to one, as long as it is another one.
func plainCut(list []impl.Step, at int) []impl.Step {
	out := copySteps(list[:at+1])
	for i := at - 1; i >= 0; i-- {
		if slices.ContainsFunc(out, func(s impl.Step) bool { return slices.Contains(s.From, i) }) {
			continue
		}
		out = slices.Delete(out, i, i+1)
		for _, s := range out {
			for j, from := range s.From {
				if from > i {
					s.From[j] = from - 1
				}
			}
		}
	}
	return out
}

// byFact returns steps, of facts each once, in the order of these.
func byFact(list []impl.Step) []impl.Step {
	var facts []impl.Fact
	for _, s := range list {
		facts = plainWith(facts, s.Fact)
	}
	place := func(f impl.Fact) int {
		return slices.IndexFunc(facts, func(other impl.Fact) bool { return sameFact(other, f) })
	}
	out := make([]impl.Step, len(facts))
	for _, s := range copySteps(list) {
		for i, from := range s.From {
			s.From[i] = place(list[from].Fact)
		}
		out[place(s.Fact)] = s
	}
	return out
}

func sameStep(a, b impl.Step) bool {
	return sameFact(a.Fact, b.Fact) && a.Rule == b.Rule && slices.Equal(a.Bind, b.Bind) && slices.Equal(a.From, b.From)
}

func sameSteps(a, b []impl.Step) bool {
	return slices.EqualFunc(a, b, sameStep)
}

func copySteps(list []impl.Step) []impl.Step {
	var out []impl.Step
	for _, s := range list {
		out = append(out, impl.Step{Fact: fact(s.Fact.Pred, slices.Clone(s.Fact.Args)...), Rule: s.Rule, Bind: slices.Clone(s.Bind), From: slices.Clone(s.From)})
	}
	return out
}

// roomySteps returns a copy of steps with unused capacity behind the list and behind all lists of numbers.
func roomySteps(list []impl.Step) []impl.Step {
	out := make([]impl.Step, 0, len(list)+3)
	for _, s := range list {
		out = append(out, impl.Step{Fact: fact(s.Fact.Pred, roomyNumbers(s.Fact.Args)...), Rule: s.Rule, Bind: roomyNumbers(s.Bind), From: roomyNumbers(s.From)})
	}
	return out
}

// stepLists returns all lists of numbers of steps.
func stepLists(list []impl.Step) [][]int {
	var out [][]int
	for _, s := range list {
		out = append(out, s.Fact.Args, s.Bind, s.From)
	}
	return out
}

// stepNumbers returns all numbers of steps, those of unused capacity among them.
func stepNumbers(list []impl.Step) []int {
	out := []int{len(list)}
	for _, s := range list[:cap(list)] {
		out = append(out, s.Fact.Pred, s.Rule, len(s.Fact.Args), len(s.Bind), len(s.From))
		out = slices.Concat(out, s.Fact.Args[:cap(s.Fact.Args)], s.Bind[:cap(s.Bind)], s.From[:cap(s.From)])
	}
	return out
}
