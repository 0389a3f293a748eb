package tests

import (
	"math"
	"slices"
	"testing"

	"loop.example/wholerules/impl"
)

// growPlaces are the places of the predicates of the programs that grow here.
var growPlaces = []int{0, 1, 2, 1, 2}

func programWith(arity []int, rules ...impl.Rule) impl.Program {
	return impl.Program{Arity: arity, Rules: rules}
}

func growing(rules ...impl.Rule) impl.Program {
	return programWith(growPlaces, rules...)
}

// wayRules are those of a way, 4, over edges, 2: along an edge, and then over a way.
func wayRules() []impl.Rule {
	return []impl.Rule{
		rule(atom(4, varW, varX), yes(2, varW, varX)),
		rule(atom(4, varW, varX), yes(2, varW, varY), yes(4, varY, varX)),
	}
}

func chainOf(pred int, edges int) []impl.Fact {
	var list []impl.Fact
	for c := range edges {
		list = append(list, fact(pred, c, c+1))
	}
	return list
}

func TestConsequences(t *testing.T) {
	list := []impl.Fact{fact(0), fact(1, 1), fact(1, 3), fact(2, 1, 3), fact(2, 3, 3), fact(2, 3, 5)}
	cases := []struct {
		name string
		p    impl.Program
		list []impl.Fact
		want []impl.Fact
	}{
		{"nothing at all", impl.Program{}, nil, nil},
		{"no rules", growing(), list, nil},
		{"no facts", growing(wayRules()...), nil, nil},
		{"a rule without a body", growing(rule(atom(4, 2, 5))), nil, []impl.Fact{fact(4, 2, 5)}},
		{"a rule without a body and without places", growing(rule(atom(0))), nil, []impl.Fact{fact(0)}},
		{"what is among the facts comes too", growing(rule(atom(1, 3)), rule(atom(0))), list, []impl.Fact{fact(0), fact(1, 3)}},
		{"each solution", growing(rule(atom(3, varX), yes(2, varW, varX))), list, []impl.Fact{fact(3, 3), fact(3, 5)}},
		{"in order, whatever the rules' is", growing(rule(atom(4, varX, varW), yes(2, varW, varX)), rule(atom(3, 4)), rule(atom(0), yes(0))), list,
			[]impl.Fact{fact(0), fact(3, 4), fact(4, 3, 1), fact(4, 3, 3), fact(4, 5, 3)}},
		{"each once, from several rules", growing(rule(atom(3, varW), yes(1, varW)), rule(atom(3, varW), yes(2, varW, varX)), rule(atom(3, 1))), list,
			[]impl.Fact{fact(3, 1), fact(3, 3)}},
		{"constants and variables in a head", growing(rule(atom(4, 5, varZ), yes(1, varZ))), list, []impl.Fact{fact(4, 5, 1), fact(4, 5, 3)}},
		{"a variable twice in a head", growing(rule(atom(4, varZ, varZ), yes(1, varZ))), list, []impl.Fact{fact(4, 1, 1), fact(4, 3, 3)}},
		{"not of what they bring themselves", growing(rule(atom(1, 5), yes(1, 1)), rule(atom(3, varW), yes(1, varW), less(3, varW))), list, []impl.Fact{fact(1, 5)}},
		{"what is denied", growing(rule(atom(3, varX), yes(2, varW, varX), no(1, varX))), list, []impl.Fact{fact(3, 5)}},
		{"what is denied of no facts", growing(rule(atom(3, 2), no(0), no(2, 1, 1))), nil, []impl.Fact{fact(3, 2)}},
		{"who denies itself", growing(rule(atom(0), no(0))), list[1:], []impl.Fact{fact(0)}},
		{"comparisons of constants alone", growing(rule(atom(3, 0), same(2, 2)), rule(atom(3, 1), same(2, 3)), rule(atom(3, 2), less(2, 3)), rule(atom(3, 3), less(2, 2))), nil,
			[]impl.Fact{fact(3, 0), fact(3, 2)}},
		{"comparisons", growing(rule(atom(4, varW, varX), yes(2, varW, varX), less(varW, varX)), rule(atom(3, varW), yes(2, varW, varX), same(varX, varW))), list,
			[]impl.Fact{fact(3, 3), fact(4, 1, 3), fact(4, 3, 5)}},
		{"as many literals as there may be", growing(rule(atom(4, varW, varZ), yes(2, varW, varX), yes(2, varX, varY), yes(2, varY, varZ), no(1, varZ))), list,
			[]impl.Fact{fact(4, 1, 5), fact(4, 3, 5)}},
	}
	for _, c := range cases {
		if got := impl.Consequences(c.p, c.list); !sameFacts(got, c.want) {
			t.Errorf("%s: Consequences = %v, want %v", c.name, got, c.want)
		}
		closed := true
		for _, f := range c.want {
			closed = closed && plainHas(c.list, f)
		}
		if got := impl.Closed(c.p, c.list); got != closed {
			t.Errorf("%s: Closed = %v", c.name, got)
		}
	}
}

func TestClosed(t *testing.T) {
	chain := []impl.Fact{fact(2, 0, 1), fact(2, 1, 2), fact(4, 0, 1), fact(4, 0, 2), fact(4, 1, 2)}
	cases := []struct {
		name string
		p    impl.Program
		list []impl.Fact
		want bool
	}{
		{"nothing at all", impl.Program{}, nil, true},
		{"no rules", growing(), chain, true},
		{"no facts", growing(wayRules()...), nil, true},
		{"all ways", growing(wayRules()...), chain, true},
		{"more ways than there are", growing(wayRules()...), append(slices.Clone(chain), fact(4, 5, 5)), true},
		{"all but one", growing(wayRules()...), slices.Delete(slices.Clone(chain), 3, 4), false},
		{"none of the ways", growing(wayRules()...), chain[:2], false},
		{"a rule without a body", growing(rule(atom(3, 2))), chain, false},
		{"a rule without a body, and its head", growing(rule(atom(3, 2))), []impl.Fact{fact(3, 2)}, true},
		{"a head of the same constants, of another predicate", growing(rule(atom(3, 2))), []impl.Fact{fact(1, 2)}, false},
		{"who denies itself", growing(rule(atom(0), no(0))), nil, false},
		{"who denies itself, and is there", growing(rule(atom(0), no(0))), []impl.Fact{fact(0)}, true},
		{"the last fact of the last predicate", growing(rule(atom(4, 5, 5))), chain, false},
		{"the last fact of the last predicate is there", growing(rule(atom(4, 5, 5))), append(slices.Clone(chain), fact(4, 5, 5)), true},
	}
	for _, c := range cases {
		if got := impl.Closed(c.p, c.list); got != c.want {
			t.Errorf("%s: Closed = %v", c.name, got)
		}
	}
}

func TestRounds(t *testing.T) {
	chain := chainOf(2, 4)
	double := []impl.Rule{rule(atom(4, varW, varX), yes(2, varW, varX)), rule(atom(4, varW, varX), yes(4, varW, varY), yes(4, varY, varX))}
	steps := []impl.Rule{rule(atom(1, 1), yes(1, 0)), rule(atom(1, 2), yes(1, 1)), rule(atom(1, 3), yes(1, 2))}
	cases := []struct {
		name string
		p    impl.Program
		db   []impl.Fact
		more [][]impl.Fact // what each round brings behind round 0
	}{
		{"nothing at all", impl.Program{}, nil, nil},
		{"no rules", growing(), []impl.Fact{fact(0), fact(4, 5, 5)}, nil},
		{"no facts", growing(wayRules()...), nil, nil},
		{"no facts fit", growing(wayRules()...), []impl.Fact{fact(1, 2), fact(3, 2)}, nil},
		{"a rule without a body", growing(rule(atom(3, 2))), nil, [][]impl.Fact{{fact(3, 2)}}},
		{"a rule without a body, given", growing(rule(atom(3, 2))), []impl.Fact{fact(3, 2)}, nil},
		{"what follows of a rule without a body", growing(rule(atom(3, varW), yes(1, varW)), rule(atom(1, 4))), []impl.Fact{fact(1, 0)},
			[][]impl.Fact{{fact(1, 4), fact(3, 0)}, {fact(3, 4)}}},
		{"comparisons of constants alone", growing(rule(atom(0), less(1, 2)), rule(atom(1, 0), same(4, 4), less(0, 5)), rule(atom(1, 1), less(5, 0))), nil,
			[][]impl.Fact{{fact(0), fact(1, 0)}}},
		{"a given fact of a head", growing(wayRules()...), []impl.Fact{fact(2, 1, 0), fact(4, 0, 5)}, [][]impl.Fact{{fact(4, 1, 0), fact(4, 1, 5)}}},
		{"a given fact is brought again", growing(wayRules()...), []impl.Fact{fact(2, 1, 0), fact(4, 1, 0)}, nil},
		{"a head in its own body", growing(rule(atom(4, varW, varX), yes(4, varW, varX))), []impl.Fact{fact(4, 1, 0)}, nil},
		{"a way in one step a round", growing(wayRules()...), chain, [][]impl.Fact{
			{fact(4, 0, 1), fact(4, 1, 2), fact(4, 2, 3), fact(4, 3, 4)}, {fact(4, 0, 2), fact(4, 1, 3), fact(4, 2, 4)}, {fact(4, 0, 3), fact(4, 1, 4)}, {fact(4, 0, 4)}}},
		{"ways put together", growing(double...), chain, [][]impl.Fact{
			{fact(4, 0, 1), fact(4, 1, 2), fact(4, 2, 3), fact(4, 3, 4)}, {fact(4, 0, 2), fact(4, 1, 3), fact(4, 2, 4)}, {fact(4, 0, 3), fact(4, 0, 4), fact(4, 1, 4)}}},
		{"a rule does not see its own round, in order", growing(steps...), []impl.Fact{fact(1, 0)}, [][]impl.Fact{{fact(1, 1)}, {fact(1, 2)}, {fact(1, 3)}}},
		{"nor in the other order", growing(steps[2], steps[1], steps[0]), []impl.Fact{fact(1, 0)}, [][]impl.Fact{{fact(1, 1)}, {fact(1, 2)}, {fact(1, 3)}}},
		{"the shorter of two ways", growing(append(slices.Clone(steps), rule(atom(1, 3), yes(1, 0)))...), []impl.Fact{fact(1, 0)}, [][]impl.Fact{{fact(1, 1), fact(1, 3)}, {fact(1, 2)}}},
		{"an old and a new fact", growing(rule(atom(3, 0), yes(0)), rule(atom(1, varW), yes(1, varX), yes(3, varW)), rule(atom(4, varX, varW), yes(3, varW), yes(1, varX))),
			[]impl.Fact{fact(0), fact(1, 5)}, [][]impl.Fact{{fact(3, 0)}, {fact(1, 0), fact(4, 5, 0)}, {fact(4, 0, 0)}}},
	}
	for _, c := range cases {
		want := [][]impl.Fact{c.db}
		for _, more := range c.more {
			next := want[len(want)-1]
			for _, f := range more {
				next = plainWith(next, f)
			}
			want = append(want, next)
		}
		if got := impl.Rounds(c.p, c.db); !sameRounds(got, want) {
			t.Errorf("%s: Rounds = %v, want %v", c.name, got, want)
		}
		checkRoundsOf(t, c.name, c.p, c.db, want)
	}
}

// checkRoundsOf checks what Least and RoundOf tell, the facts of each round being known.
func checkRoundsOf(t *testing.T, name string, p impl.Program, db []impl.Fact, rounds [][]impl.Fact) {
	t.Helper()
	last := rounds[len(rounds)-1]
	if got := impl.Least(p, db); !sameFacts(got, last) {
		t.Errorf("%s: Least = %v, want %v", name, got, last)
	}
	for _, f := range allOf(p.Arity) {
		want := slices.IndexFunc(rounds, func(list []impl.Fact) bool { return plainHas(list, f) })
		if got := impl.RoundOf(p, db, f); got != want {
			t.Errorf("%s: RoundOf(%v) = %d, want %d", name, f, got, want)
		}
	}
}

func TestRoundOfWhatIsNoFact(t *testing.T) {
	p := growing(append(wayRules(), rule(atom(0)), rule(atom(1, 1), yes(0)))...)
	db := chainOf(2, 2)
	for _, f := range []impl.Fact{
		fact(2, 1), fact(2, 0, 1, 0), fact(2), fact(0, 0), fact(1), fact(4, 0), fact(5, 0, 1), fact(-1), fact(24), fact(1, 6), fact(1, -1), fact(1, math.MaxInt),
		fact(4, 0, 6), fact(4, -1, 7), fact(math.MaxInt, 0), fact(math.MinInt, 0), fact(4, 2, 0),
	} {
		if got := impl.RoundOf(p, db, f); got != -1 {
			t.Errorf("RoundOf(%v) = %d", f, got)
		}
	}
	if got := impl.RoundOf(impl.Program{}, nil, impl.Fact{}); got != -1 {
		t.Errorf("RoundOf of nothing = %d", got)
	}
}

// noPrograms returns programs that are none, but for what is told they are as growing ones.
func noPrograms() map[string]impl.Program {
	ok := rule(atom(3, varW), yes(1, varW))
	return map[string]impl.Program{
		"a predicate with too many places": programWith([]int{0, 1, 2, 1, 3}, ok),
		"a predicate with too few places":  programWith([]int{0, 1, 2, 1, -1}, ok),
		"too many predicates":              programWith(append(slices.Clone(growPlaces), make([]int, 20)...), ok),
		"too many rules":                   growing(slices.Repeat([]impl.Rule{ok}, 61)...),
		"too many literals":                growing(ok, rule(atom(0), yes(0), yes(0), yes(0), yes(0), yes(0))),
		"a rule that is not safe":          growing(ok, rule(atom(3, varX), yes(1, varW))),
		"a variable without a body":        growing(ok, rule(atom(3, varX))),
		"a comparison that is not safe":    growing(ok, rule(atom(0), less(varW, 3))),
		"a head of no predicate":           growing(ok, rule(atom(5))),
		"a head below 0":                   growing(ok, rule(atom(-1))),
		"a head with other places":         growing(ok, rule(atom(1, 2, 3))),
		"a head of no term":                growing(ok, rule(atom(1, 6))),
		"a literal of no predicate":        growing(ok, rule(atom(0), yes(5))),
		"a literal below 0":                growing(ok, rule(atom(0), yes(-1))),
		"a literal with other places":      growing(ok, rule(atom(0), yes(2, varW))),
		"a literal of no term":             growing(ok, rule(atom(0), yes(1, -5))),
		"a literal of no kind":             growing(ok, rule(atom(0), impl.Lit{Kind: 4})),
		"a comparison of a predicate":      growing(ok, rule(atom(0), impl.Lit{Kind: impl.LitLess, Atom: atom(2, 1, 2)})),
		"a comparison of one term":         growing(ok, rule(atom(0), same(1))),
	}
}

// noLists returns lists that are no facts of growPlaces, or not in order.
func noLists() map[string][]impl.Fact {
	return map[string][]impl.Fact{
		"out of order":           {fact(1, 3), fact(1, 2)},
		"predicates not ordered": {fact(1, 2), fact(0)},
		"twice":                  {fact(1, 2), fact(1, 2)},
		"too many places":        {fact(1, 2, 3)},
		"too few places":         {fact(1, 2), fact(2, 2)},
		"no predicate":           {fact(1, 2), fact(5)},
		"below 0":                {fact(-1), fact(1, 2)},
		"far away":               {fact(1, 2), fact(math.MaxInt)},
		"no constant":            {fact(1, 6)},
		"a variable":             {fact(1, varW), fact(1, 2)},
		"the last is none":       {fact(1, 2), fact(4, 5, math.MaxInt)},
	}
}

func TestRoundsOfWhatIsNone(t *testing.T) {
	for name, p := range noPrograms() {
		checkNoConsequences(t, name, p, []impl.Fact{fact(1, 2)})
		checkNoRounds(t, name, p, []impl.Fact{fact(1, 2)})
		checkNoConsequences(t, name, p, nil)
		checkNoRounds(t, name, p, nil)
	}
	for name, list := range noLists() {
		for _, p := range []impl.Program{growing(), growing(rule(atom(3, varW), yes(1, varW)), rule(atom(1, 2)))} {
			checkNoConsequences(t, name, p, list)
			checkNoRounds(t, name, p, list)
		}
	}
	checkNoConsequences(t, "facts of no predicates", impl.Program{}, []impl.Fact{{}})
	checkNoRounds(t, "facts of no predicates", impl.Program{}, []impl.Fact{{}})
}

func checkNoConsequences(t *testing.T, name string, p impl.Program, list []impl.Fact) {
	t.Helper()
	if got := impl.Consequences(p, list); len(got) != 0 {
		t.Errorf("%s: Consequences = %v", name, got)
	}
	if impl.Closed(p, list) {
		t.Errorf("%s: closed", name)
	}
}

func checkNoRounds(t *testing.T, name string, p impl.Program, db []impl.Fact) {
	t.Helper()
	if got := impl.Rounds(p, db); len(got) != 0 {
		t.Errorf("%s: Rounds = %v", name, got)
	}
	if got := impl.Least(p, db); len(got) != 0 {
		t.Errorf("%s: Least = %v", name, got)
	}
	for _, f := range append(slices.Clone(db), fact(1, 2), fact(3, 2)) {
		if got := impl.RoundOf(p, db, f); got != -1 {
			t.Errorf("%s: RoundOf(%v) = %d", name, f, got)
		}
	}
}

// A program that denies something has consequences, but no rounds, even if the rule fits nothing.
func TestRoundsOfWhatDenies(t *testing.T) {
	db := []impl.Fact{fact(1, 2), fact(1, 3)}
	for _, denying := range []impl.Rule{rule(atom(0), no(1, 5)), rule(atom(0), yes(4, varW, varX), no(2, varW, varX)), rule(atom(4, varW, 0), yes(1, varW), no(4, 0, varW))} {
		p := growing(rule(atom(3, varW), yes(1, varW)), denying)
		checkNoRounds(t, "denying", p, db)
		got := impl.Consequences(p, db)
		if !sameFacts(got, plainConsequences(p, db)) || len(got) < 2 {
			t.Errorf("Consequences of %v = %v", denying, got)
		}
		if impl.Closed(p, db) {
			t.Errorf("closed without what %v says", denying)
		}
	}
}

// The fourth promise, for all sets of the facts of a few predicates: the least facts are closed, have those that are given,
// and stand in all closed ones that have these.
func TestLeastStandsInAllClosedOnes(t *testing.T) {
	all := fewOfAll()
	for _, p := range fewPrograms() {
		for _, db := range [][]impl.Fact{nil, all[:2], {all[2], all[6]}, {all[0], all[3], all[9]}, {all[1], all[5], all[8]}} {
			least := impl.Least(p, db)
			if !impl.Closed(p, least) || !within(db, least) {
				t.Fatalf("Least(%v, %v) = %v", p, db, least)
			}
			closed := 0
			for n := range 1 << len(all) {
				set := pick(all, n)
				if !within(db, set) || !impl.Closed(p, set) {
					continue
				}
				closed++
				if !within(least, set) {
					t.Fatalf("Least(%v, %v) = %v is not within %v", p, db, least, set)
				}
			}
			if closed == 0 {
				t.Fatalf("no closed facts for %v", p)
			}
		}
	}
}

// fewOfAll returns ten facts of the predicates of fewPrograms, beyond which their rules say nothing of these.
func fewOfAll() []impl.Fact {
	return slices.Concat(impl.AllFacts(0, 0), impl.AllFacts(1, 1)[:4], impl.AllFacts(2, 0), impl.AllFacts(3, 1)[:4])
}

func fewPrograms() []impl.Program {
	arity := []int{0, 1, 0, 1}
	return []impl.Program{
		programWith(arity),
		programWith(arity, rule(atom(1, 3)), rule(atom(3, varW), yes(1, varW), yes(0))),
		programWith(arity, rule(atom(0), yes(1, varW), yes(3, varW)), rule(atom(3, varX), yes(1, varX), less(1, varX))),
		programWith(arity, rule(atom(2), yes(0)), rule(atom(0), yes(2)), rule(atom(1, 0), yes(0), yes(2), yes(3, 1))),
		programWith(arity, rule(atom(3, varW), yes(1, varW), yes(3, varX), less(varX, varW)), rule(atom(1, varW), yes(3, varW)), rule(atom(1, 3), yes(2))),
	}
}

// Programs of one to three rules of a table are held against a model that asks all rules of all facts in every round.
func TestRoundsAgainstPlainOnes(t *testing.T) {
	table := growRules()
	for i := range table {
		checkPlain(t, growing(table[i]))
		for j := range table {
			checkPlain(t, growing(table[i], table[j]))
			checkPlain(t, growing(table[(i+2*j)%len(table)], table[j], table[i]))
		}
	}
	checkPlain(t, growing(table...))
}

func checkPlain(t *testing.T, p impl.Program) {
	t.Helper()
	for _, db := range growLists() {
		want := plainRounds(p, db)
		got := impl.Rounds(p, db)
		if !sameRounds(got, want) {
			t.Fatalf("Rounds(%v, %v) = %v, want %v", p, db, got, want)
		}
		last := want[len(want)-1]
		if !impl.Closed(p, last) || len(want) > 1 && impl.Closed(p, want[len(want)-2]) {
			t.Fatalf("Rounds(%v, %v) is not up to what is closed first", p, db)
		}
		if got := impl.Least(p, db); !sameFacts(got, last) {
			t.Fatalf("Least(%v, %v) = %v, want %v", p, db, got, last)
		}
		if got, want := impl.Consequences(p, db), plainConsequences(p, db); !sameFacts(got, want) {
			t.Fatalf("Consequences(%v, %v) = %v, want %v", p, db, got, want)
		}
		for round, list := range want {
			f := list[len(list)-1]
			if first := impl.RoundOf(p, db, f); first > round || !plainHas(want[first], f) || first > 0 && plainHas(want[first-1], f) {
				t.Fatalf("RoundOf(%v, %v, %v) = %d", p, db, f, first)
			}
		}
	}
}

// What a rule denies is told of all facts, not of those that are new.
func TestConsequencesAgainstPlainOnes(t *testing.T) {
	denying := []impl.Rule{
		rule(atom(3, varW), yes(1, varW), no(3, varW)),
		rule(atom(4, varX, varW), no(4, varW, varX), yes(2, varW, varX), no(0)),
		rule(atom(0), no(0), no(1, 2)),
		rule(atom(2, varZ, 1), yes(2, varZ, varY), no(2, varY, varY), less(varZ, varY)),
	}
	table := append(growRules(), denying...)
	for i := range table {
		for _, d := range denying {
			p := growing(table[i], d)
			for _, list := range growLists() {
				want := plainConsequences(p, list)
				if got := impl.Consequences(p, list); !sameFacts(got, want) {
					t.Fatalf("Consequences(%v, %v) = %v, want %v", p, list, got, want)
				}
				if got := impl.Closed(p, list); got != within(want, list) {
					t.Fatalf("Closed(%v, %v) = %v", p, list, got)
				}
			}
		}
	}
}

// counting returns the rules of counters of two places, each begun by the end of the one ahead, that bring one fact a round
// over a chain of 0 and the first fact of 1.
func counting(counters int) impl.Program {
	p := programWith(slices.Repeat([]int{2}, counters+1))
	for pred := range counters {
		p.Rules = append(p.Rules,
			rule(atom(pred+1, varW, varY), yes(pred+1, varW, varX), yes(0, varX, varY)),
			rule(atom(pred+1, varY, 0), yes(0, varX, varY), yes(pred+1, varX, 5)))
		if pred > 0 {
			p.Rules = append(p.Rules, rule(atom(pred+1, 0, 0), yes(pred, 5, 5)))
		}
	}
	return p
}

func TestManyRounds(t *testing.T) {
	const counters = 20
	p := counting(counters)
	db := append(chainOf(0, 5), fact(1, 0, 0))
	rounds := impl.Rounds(p, db)
	if len(rounds) != 36*counters {
		t.Fatalf("%d rounds", len(rounds))
	}
	for round, list := range rounds {
		if len(list) != len(db)+round || !ascending(list) {
			t.Fatalf("round %d has %d facts", round, len(list))
		}
	}
	for _, at := range []int{0, 1, 35, 36, 100, 36*counters - 1} {
		f := fact(at/36+1, at/6%6, at%6)
		if got := impl.RoundOf(p, db, f); got != at {
			t.Errorf("RoundOf(%v) = %d, want %d", f, got, at)
		}
	}
	if least := impl.Least(p, db); !sameFacts(least, rounds[len(rounds)-1]) || !impl.Closed(p, least) {
		t.Error("Least is not the last round")
	}
}

// As many predicates, rules and literals as there may be, and each rule has all constants for all its variables.
func TestRoundsOfAllFacts(t *testing.T) {
	p := programWith(slices.Repeat([]int{2}, impl.MaxPreds))
	last := impl.MaxPreds - 1
	for i := range impl.MaxRules {
		pred := i % last
		body := []impl.Lit{yes(pred, varW, varX), yes(pred/2, varX, varY), yes(pred, varY, varZ), yes(0, varZ, varW)}
		p.Rules = append(p.Rules, rule(atom(pred+1, varX, varZ), body...))
	}
	db := impl.AllFacts(0, 2)
	all := allOf(p.Arity)
	if got := impl.Least(p, db); !sameFacts(got, all) || !impl.Closed(p, got) || impl.Closed(p, all[:len(all)-1]) {
		t.Errorf("%d facts of %d", len(got), len(all))
	}
	if got := impl.Consequences(p, all); !sameFacts(got, all[len(db):]) {
		t.Errorf("%d consequences", len(got))
	}
	for pred := range impl.MaxPreds {
		if got := impl.RoundOf(p, db, fact(pred, 5, 0)); got != pred {
			t.Errorf("predicate %d comes in round %d", pred, got)
		}
	}
	p.Rules = append(p.Rules, p.Rules[0])
	checkNoRounds(t, "a rule too many", p, db)
	checkNoConsequences(t, "a rule too many", p, db)
}

func TestRoundsNilIsEmpty(t *testing.T) {
	empty := impl.Program{Arity: []int{}, Rules: []impl.Rule{}}
	for _, p := range []impl.Program{{}, empty} {
		for _, db := range [][]impl.Fact{nil, {}} {
			if !impl.Closed(p, db) || len(impl.Consequences(p, db)) != 0 || len(impl.Least(p, db)) != 0 || impl.RoundOf(p, db, impl.Fact{}) != -1 {
				t.Error("nil and empty differ")
			}
			if got := impl.Rounds(p, db); len(got) != 1 || len(got[0]) != 0 {
				t.Errorf("Rounds of nothing = %v", got)
			}
		}
	}
	for _, head := range []impl.Atom{{}, {Args: []int{}}} {
		for _, body := range [][]impl.Lit{nil, {}, {{Atom: impl.Atom{Pred: 1}}}, {{Atom: impl.Atom{Pred: 1, Args: []int{}}}}} {
			for _, f := range []impl.Fact{{Pred: 1}, {Pred: 1, Args: []int{}}} {
				p := programWith([]int{0, 0}, impl.Rule{Head: head, Body: body})
				db := []impl.Fact{f}
				if got := impl.Rounds(p, db); !sameRounds(got, [][]impl.Fact{{fact(1)}, {fact(0), fact(1)}}) {
					t.Errorf("Rounds = %v", got)
				}
				if impl.RoundOf(p, db, impl.Fact{Args: []int{}}) != 1 || impl.RoundOf(p, db, impl.Fact{}) != 1 || impl.Closed(p, db) {
					t.Error("nil and empty Args differ")
				}
			}
		}
	}
}

func TestRoundsArgumentsAreNotChanged(t *testing.T) {
	rules := growRules()
	for i := range rules {
		p := roomyProgram(growing(rules[i], rules[(i+1)%len(rules)], rule(atom(0), yes(1, varW), no(3, varW))))
		for _, list := range growLists() {
			for _, many := range []int{3, 2} {
				q := impl.Program{Arity: p.Arity, Rules: p.Rules[:many]}
				l := roomy(list)
				f := fact(4, roomyNumbers([]int{0, 2})...)
				wantProgram, wantList := programNumbers(p), deepCopy(whole(l))
				impl.Consequences(q, l)
				impl.Closed(q, l)
				impl.Rounds(q, l)
				impl.Least(q, l)
				impl.RoundOf(q, l, f)
				if !sameFacts(whole(l), wantList) || !slices.Equal(programNumbers(p), wantProgram) || !slices.Equal(f.Args[:cap(f.Args)], []int{0, 2, 0, 0, 0}) {
					t.Fatalf("an argument is changed by %v", q)
				}
			}
		}
	}
}

func TestRoundsShareNothing(t *testing.T) {
	p := roomyProgram(growing(append(wayRules(), rule(atom(1, 3)), rule(atom(0), yes(1, 3)))...))
	db := roomy(append(chainOf(2, 3), fact(4, 5, 5)))
	wantProgram, wantList := programNumbers(p), deepCopy(whole(db))
	last := func() []impl.Fact { all := impl.Rounds(p, db); return all[len(all)-1] }
	calls := map[string]func() []impl.Fact{
		"Consequences":            func() []impl.Fact { return impl.Consequences(p, db) },
		"Least":                   func() []impl.Fact { return impl.Least(p, db) },
		"the last of Rounds":      last,
		"round 0 of Rounds":       func() []impl.Fact { return impl.Rounds(p, db)[0] },
		"Least without rules":     func() []impl.Fact { return impl.Least(programWith(p.Arity), db) },
		"Rounds without rules":    func() []impl.Fact { return impl.Rounds(programWith(p.Arity), db)[0] },
		"Consequences of no body": func() []impl.Fact { return impl.Consequences(growing(p.Rules[2]), db) },
	}
	checkCallsApart(t, calls, func() bool { return sameFacts(whole(db), wantList) && slices.Equal(programNumbers(p), wantProgram) })
}

// checkCallsApart writes to what calls return, and checks that this changes no other result, and that the arguments are as they were.
func checkCallsApart(t *testing.T, calls map[string]func() []impl.Fact, unchanged func() bool) {
	t.Helper()
	for name, call := range calls {
		first, second := call(), call()
		want := deepCopy(first)
		if len(want) == 0 {
			t.Errorf("%s is nothing here", name)
		}
		scribble(first)
		if !sameFacts(second, want) || !sameFacts(call(), want) {
			t.Errorf("writing to %s changes another result", name)
		}
		if !unchanged() {
			t.Fatalf("writing to %s changes an argument", name)
		}
		checkFactsApart(t, name, call())
	}
}

// checkFactsApart checks that no two facts of a list share memory.
func checkFactsApart(t *testing.T, name string, list []impl.Fact) {
	t.Helper()
	for i := range list {
		want := deepCopy(list)
		fill(list[i].Args[:cap(list[i].Args)])
		for j := range list {
			if j != i && !sameFact(list[j], want[j]) {
				t.Errorf("two facts of %s share memory", name)
			}
		}
		list[i] = want[i]
	}
}

func TestRoundsShareNothingWithEachOther(t *testing.T) {
	p := growing(append(wayRules(), rule(atom(1, 3)))...)
	db := roomy(chainOf(2, 4))
	want := plainRounds(p, deepCopy(db))
	checkListsApart(t, "Rounds", func() [][]impl.Fact { return impl.Rounds(p, db) }, want)
	got := impl.Rounds(p, db)
	scribble(db)
	if !sameRounds(got, want) {
		t.Error("writing to the facts that are given changes rounds")
	}
}

// checkListsApart writes to each list that a call returns, and to the list of these, and checks that this changes no other one,
// and no other result.
func checkListsApart(t *testing.T, name string, call func() [][]impl.Fact, want [][]impl.Fact) {
	t.Helper()
	if got := call(); !sameRounds(got, want) {
		t.Fatalf("%s = %v, want %v", name, got, want)
	}
	for i := range want {
		first, second := call(), call()
		checkFactsApart(t, name, call()[i])
		scribble(first[i])
		first[i] = want[i]
		for _, got := range [][][]impl.Fact{first, second, call()} {
			if !sameRounds(got, want) {
				t.Errorf("%s: writing to the list %d changes another one", name, i)
			}
		}
	}
	first, second := call(), call()
	every := first[:cap(first)]
	for i := range every {
		every[i] = nil
	}
	if !sameRounds(second, want) || !sameRounds(call(), want) {
		t.Errorf("%s: two results share memory", name)
	}
}

// growRules returns positive rules of growPlaces, with and without bodies, ones that ask themselves and each other among them.
func growRules() []impl.Rule {
	return []impl.Rule{
		rule(atom(3, 4)),
		rule(atom(2, 4, 0)),
		rule(atom(0), yes(1, 4), yes(3, 4)),
		rule(atom(4, varW, varX), yes(2, varW, varX)),
		rule(atom(4, varW, varX), yes(2, varW, varY), yes(4, varY, varX)),
		rule(atom(4, varX, varZ), yes(4, varX, varY), yes(4, varY, varZ)),
		rule(atom(4, varY, varX), yes(4, varX, varY), less(varX, varY)),
		rule(atom(2, varX, varY), yes(4, varX, varY), yes(0)),
		rule(atom(1, varX), yes(4, varX, varX)),
		rule(atom(1, varX), yes(3, varW), yes(4, varW, varX)),
		rule(atom(3, varW), yes(1, varW), yes(2, varW, varX), yes(1, varX)),
		rule(atom(3, 5), yes(0), same(1, 1)),
		rule(atom(4, varW, varW), yes(1, varW), yes(1, varX), same(varX, varW)),
		rule(atom(4, varW, 2), yes(1, varX), yes(3, varW), less(varX, varW), yes(0)),
		rule(atom(1, varX), yes(1, varW), yes(2, varW, varX), yes(2, varX, varY), less(varX, varY)),
	}
}

// growLists returns facts of growPlaces, ones of heads among them.
func growLists() [][]impl.Fact {
	return [][]impl.Fact{
		{fact(0)},
		append([]impl.Fact{fact(1, 0)}, chainOf(2, 5)...),
		{fact(0), fact(1, 1), fact(1, 4), fact(2, 0, 1), fact(2, 1, 0), fact(2, 1, 3), fact(3, 1), fact(4, 3, 5)},
	}
}

func plainConsequences(p impl.Program, list []impl.Fact) []impl.Fact {
	var out []impl.Fact
	for _, r := range p.Rules {
		for _, bind := range plainSolutions(list, r.Body) {
			values, _ := plainValues(r.Head.Args, bind)
			out = plainWith(out, impl.Fact{Pred: r.Head.Pred, Args: values})
		}
	}
	return out
}

// plainRounds asks all rules of all facts in each round.
func plainRounds(p impl.Program, db []impl.Fact) [][]impl.Fact {
	rounds := [][]impl.Fact{db}
	for {
		last := rounds[len(rounds)-1]
		next := last
		for _, f := range plainConsequences(p, last) {
			next = plainWith(next, f)
		}
		if len(next) == len(last) {
			return rounds
		}
		rounds = append(rounds, next)
	}
}

// allOf returns all facts of predicates.
func allOf(arity []int) []impl.Fact {
	var all []impl.Fact
	for pred, places := range arity {
		all = append(all, impl.AllFacts(pred, places)...)
	}
	return all
}

// pick returns the facts at the bits of a number.
func pick(all []impl.Fact, n int) []impl.Fact {
	var out []impl.Fact
	for i, f := range all {
		if n>>i&1 == 1 {
			out = append(out, f)
		}
	}
	return out
}

// within reports whether all facts of one list are in another one.
func within(a []impl.Fact, b []impl.Fact) bool {
	for _, f := range a {
		if !plainHas(b, f) {
			return false
		}
	}
	return true
}

func sameRounds(a, b [][]impl.Fact) bool {
	return slices.EqualFunc(a, b, sameFacts)
}
