package tests

import (
	"math"
	"slices"
	"testing"

	"loop.example/wholerules/impl"
)

func mode(pred int, known ...bool) impl.Mode {
	return impl.Mode{Pred: pred, Known: known}
}

// magicCase is rules of growPlaces, a question, its modes, and the rules into which it is built.
type magicCase struct {
	name  string
	rules []impl.Rule
	ask   impl.Atom
	modes []impl.Mode
	arity []int // the places of the own predicates and the seeds, which begin with 5
	want  []impl.Rule
	seed  impl.Fact
	own   impl.Atom
}

func magicCases() []magicCase {
	leftWay := []impl.Rule{wayRules()[0], rule(atom(4, varW, varX), yes(4, varW, varY), yes(2, varY, varX))}
	compared := []impl.Rule{rule(atom(1, varX), yes(2, varX, varY)), rule(atom(3, varW), less(varW, varX), yes(1, varX), yes(1, varW))}
	constants := []impl.Rule{rule(atom(4, 1, varX), yes(3, varX), yes(4, varX, 2))}
	each := []impl.Rule{rule(atom(0), yes(3, 4)), rule(atom(1, varW), yes(0), yes(2, varW, varX), yes(3, varX)), rule(atom(3, varY), yes(1, varY)), rule(atom(3, 5))}
	return []magicCase{
		{"of the document", wayRules(), atom(4, 0, varW), []impl.Mode{mode(4, true, false)}, []int{2, 1}, []impl.Rule{
			rule(atom(5, varW, varX), yes(6, varW), yes(4, varW, varX)),
			rule(atom(5, varW, varX), yes(6, varW), yes(2, varW, varX)),
			rule(atom(6, varY), yes(6, varW), yes(2, varW, varY)),
			rule(atom(5, varW, varX), yes(6, varW), yes(2, varW, varY), yes(5, varY, varX)),
		}, fact(6, 0), atom(5, 0, varW)},
		{"both places are known", wayRules(), atom(4, 0, 3), []impl.Mode{mode(4, true, true)}, []int{2, 2}, []impl.Rule{
			rule(atom(5, varW, varX), yes(6, varW, varX), yes(4, varW, varX)),
			rule(atom(5, varW, varX), yes(6, varW, varX), yes(2, varW, varX)),
			rule(atom(6, varY, varX), yes(6, varW, varX), yes(2, varW, varY)),
			rule(atom(5, varW, varX), yes(6, varW, varX), yes(2, varW, varY), yes(5, varY, varX)),
		}, fact(6, 0, 3), atom(5, 0, 3)},
		{"the last place is known", wayRules(), atom(4, varZ, 3), []impl.Mode{mode(4, false, true), mode(4, true, true)}, []int{2, 2, 1, 2}, []impl.Rule{
			rule(atom(5, varW, varX), yes(7, varX), yes(4, varW, varX)),
			rule(atom(5, varW, varX), yes(7, varX), yes(2, varW, varX)),
			rule(atom(8, varY, varX), yes(7, varX), yes(2, varW, varY)),
			rule(atom(5, varW, varX), yes(7, varX), yes(2, varW, varY), yes(6, varY, varX)),
			rule(atom(6, varW, varX), yes(8, varW, varX), yes(4, varW, varX)),
			rule(atom(6, varW, varX), yes(8, varW, varX), yes(2, varW, varX)),
			rule(atom(8, varY, varX), yes(8, varW, varX), yes(2, varW, varY)),
			rule(atom(6, varW, varX), yes(8, varW, varX), yes(2, varW, varY), yes(6, varY, varX)),
		}, fact(7, 3), atom(5, varZ, 3)},
		{"without constants, a variable twice", wayRules(), atom(4, varX, varX), []impl.Mode{mode(4, false, false), mode(4, true, false)}, []int{2, 2, 0, 1}, []impl.Rule{
			rule(atom(5, varW, varX), yes(7), yes(4, varW, varX)),
			rule(atom(5, varW, varX), yes(7), yes(2, varW, varX)),
			rule(atom(8, varY), yes(7), yes(2, varW, varY)),
			rule(atom(5, varW, varX), yes(7), yes(2, varW, varY), yes(6, varY, varX)),
			rule(atom(6, varW, varX), yes(8, varW), yes(4, varW, varX)),
			rule(atom(6, varW, varX), yes(8, varW), yes(2, varW, varX)),
			rule(atom(8, varY), yes(8, varW), yes(2, varW, varY)),
			rule(atom(6, varW, varX), yes(8, varW), yes(2, varW, varY), yes(6, varY, varX)),
		}, fact(7), atom(5, varX, varX)},
		{"who asks itself with the same", leftWay, atom(4, 5, varX), []impl.Mode{mode(4, true, false)}, []int{2, 1}, []impl.Rule{
			rule(atom(5, varW, varX), yes(6, varW), yes(4, varW, varX)),
			rule(atom(5, varW, varX), yes(6, varW), yes(2, varW, varX)),
			rule(atom(6, varW), yes(6, varW)),
			rule(atom(5, varW, varX), yes(6, varW), yes(5, varW, varY), yes(2, varY, varX)),
		}, fact(6, 5), atom(5, 5, varX)},
		{"comparisons stand as they are, and seeds do not ask them", compared, atom(3, 2), []impl.Mode{mode(3, true), mode(1, false), mode(1, true)}, []int{1, 1, 1, 1, 0, 1}, []impl.Rule{
			rule(atom(5, varW), yes(8, varW), yes(3, varW)),
			rule(atom(9), yes(8, varW)),
			rule(atom(10, varW), yes(8, varW), yes(6, varX)),
			rule(atom(5, varW), yes(8, varW), less(varW, varX), yes(6, varX), yes(7, varW)),
			rule(atom(6, varW), yes(9), yes(1, varW)),
			rule(atom(6, varX), yes(9), yes(2, varX, varY)),
			rule(atom(7, varW), yes(10, varW), yes(1, varW)),
			rule(atom(7, varX), yes(10, varX), yes(2, varX, varY)),
		}, fact(8, 2), atom(5, 2)},
		{"constants in a rule", constants, atom(4, varX, 3), []impl.Mode{mode(4, false, true), mode(4, true, true)}, []int{2, 2, 1, 2}, []impl.Rule{
			rule(atom(5, varW, varX), yes(7, varX), yes(4, varW, varX)),
			rule(atom(8, varX, 2), yes(7, varX), yes(3, varX)),
			rule(atom(5, 1, varX), yes(7, varX), yes(3, varX), yes(6, varX, 2)),
			rule(atom(6, varW, varX), yes(8, varW, varX), yes(4, varW, varX)),
			rule(atom(8, varX, 2), yes(8, 1, varX), yes(3, varX)),
			rule(atom(6, 1, varX), yes(8, 1, varX), yes(3, varX), yes(6, varX, 2)),
		}, fact(7, 3), atom(5, varX, 3)},
		{"a variable twice in a head", []impl.Rule{rule(atom(4, varZ, varZ), yes(1, varZ))}, atom(4, 2, varY), []impl.Mode{mode(4, true, false)}, []int{2, 1}, []impl.Rule{
			rule(atom(5, varW, varX), yes(6, varW), yes(4, varW, varX)),
			rule(atom(5, varZ, varZ), yes(6, varZ), yes(1, varZ)),
		}, fact(6, 2), atom(5, 2, varY)},
		{"a rule without a body, and none of others", append([]impl.Rule{rule(atom(1, 2)), rule(atom(0), yes(1, 4))}, wayRules()...), atom(1, varZ), []impl.Mode{mode(1, false)}, []int{1, 0}, []impl.Rule{
			rule(atom(5, varW), yes(6), yes(1, varW)),
			rule(atom(5, 2), yes(6)),
		}, fact(6), atom(5, varZ)},
		{"those that ask each other, and no places", each, atom(0), []impl.Mode{mode(0), mode(3, true), mode(1, true)}, []int{0, 1, 1, 0, 1, 1}, []impl.Rule{
			rule(atom(5), yes(8), yes(0)),
			rule(atom(9, 4), yes(8)),
			rule(atom(5), yes(8), yes(6, 4)),
			rule(atom(6, varW), yes(9, varW), yes(3, varW)),
			rule(atom(10, varY), yes(9, varY)),
			rule(atom(6, varY), yes(9, varY), yes(7, varY)),
			rule(atom(6, 5), yes(9, 5)),
			rule(atom(7, varW), yes(10, varW), yes(1, varW)),
			rule(atom(8), yes(10, varW)),
			rule(atom(9, varX), yes(10, varW), yes(5), yes(2, varW, varX)),
			rule(atom(7, varW), yes(10, varW), yes(5), yes(2, varW, varX), yes(6, varX)),
		}, fact(8), atom(5)},
	}
}

func TestMagic(t *testing.T) {
	for _, c := range magicCases() {
		p := growing(c.rules...)
		if got, ok := impl.ModesOf(p, c.ask); !ok || !slices.EqualFunc(got, c.modes, sameMode) {
			t.Errorf("%s: ModesOf = %v, %v, want %v", c.name, got, ok, c.modes)
		}
		want := programWith(append(slices.Clone(growPlaces), c.arity...), c.want...)
		q, seed, own, ok := impl.Magic(p, c.ask)
		if !ok || !slices.Equal(q.Arity, want.Arity) || !sameRules(q.Rules, want.Rules) {
			t.Errorf("%s: Magic = %v, %v, want %v", c.name, q, ok, want)
		}
		if !sameFact(seed, c.seed) || !sameAtom(own, c.own) {
			t.Errorf("%s: Magic has the fact %v and the atom %v", c.name, seed, own)
		}
	}
}

// What the rules of a question say: the facts of their own predicates and the seeds, besides those that are given.
func TestMagicFacts(t *testing.T) {
	ways := growing(wayRules()...)
	edges := append(chainOf(2, 3), fact(2, 4, 5))
	edges = edges[:len(edges):len(edges)]
	round := append(chainOf(2, 3), fact(2, 3, 0), fact(2, 4, 5))
	squares := growing(append(wayRules(), rule(atom(3, varW), yes(4, varW, varW)))...)
	cases := []struct {
		name    string
		p       impl.Program
		db      []impl.Fact
		ask     impl.Atom
		answers []impl.Fact
		more    int
	}{
		{"ways from 0", ways, edges, atom(4, 0, varW), []impl.Fact{fact(4, 0, 1), fact(4, 0, 2), fact(4, 0, 3)}, 4 + 6},
		{"ways from 2", ways, edges, atom(4, 2, varW), []impl.Fact{fact(4, 2, 3)}, 2 + 1},
		{"ways from 3, from which none leads on", ways, edges, atom(4, 3, varW), nil, 1},
		{"a way from 0 to 2", ways, edges, atom(4, 0, 2), []impl.Fact{fact(4, 0, 2)}, 4 + 2},
		{"a way that there is not", ways, edges, atom(4, 1, 5), nil, 3},
		{"ways to 2", ways, edges, atom(4, varX, 2), []impl.Fact{fact(4, 0, 2), fact(4, 1, 2)}, 1 + 2 + 4 + 1},
		{"all ways", ways, edges, atom(4, varX, varW), []impl.Fact{fact(4, 0, 1), fact(4, 0, 2), fact(4, 0, 3), fact(4, 1, 2), fact(4, 1, 3), fact(4, 2, 3), fact(4, 4, 5)}, 1 + 7 + 4 + 3},
		{"ways back, of which there are none", ways, edges, atom(4, varX, varX), nil, 1 + 7 + 4 + 3},
		{"ways, and no facts", ways, nil, atom(4, 0, varW), nil, 1},
		{"a way that is given", ways, append(edges, fact(4, 2, 5)), atom(4, 1, varZ), []impl.Fact{fact(4, 1, 2), fact(4, 1, 3), fact(4, 1, 5)}, 3 + 5},
		{"a way that is given, and no edges", ways, []impl.Fact{fact(4, 2, 5)}, atom(4, varW, varX), []impl.Fact{fact(4, 2, 5)}, 1 + 1},
		{"a way that is given, and that is asked for", ways, []impl.Fact{fact(4, 2, 5)}, atom(4, 2, 5), []impl.Fact{fact(4, 2, 5)}, 1 + 1},
		{"a way that is given, and that is not asked for", ways, []impl.Fact{fact(4, 2, 5)}, atom(4, 1, varX), nil, 1},
		{"ways that end where they begin", squares, round, atom(3, 1), []impl.Fact{fact(3, 1)}, 2 + 4 + 4},
		{"who has ways that end where they begin", squares, round, atom(3, varX), []impl.Fact{fact(3, 0), fact(3, 1), fact(3, 2), fact(3, 3)}, 1 + 4 + 1 + 17 + 5 + 16},
		{"a rule without a body", growing(rule(atom(1, 3)), rule(atom(1, 4))), nil, atom(1, 3), []impl.Fact{fact(1, 3)}, 2},
		{"rules without bodies", growing(rule(atom(1, 3)), rule(atom(1, 4))), []impl.Fact{fact(1, 5)}, atom(1, varX), []impl.Fact{fact(1, 3), fact(1, 4), fact(1, 5)}, 4},
	}
	for _, c := range cases {
		if got, ok := impl.MagicAnswers(c.p, c.db, c.ask); !ok || !sameFacts(got, c.answers) {
			t.Errorf("%s: MagicAnswers = %v, %v, want %v", c.name, got, ok, c.answers)
		}
		if got := impl.MagicFacts(c.p, c.db, c.ask); got != c.more {
			t.Errorf("%s: MagicFacts = %d, want %d", c.name, got, c.more)
		}
	}
}

func checkNoMagic(t *testing.T, name string, p impl.Program, db []impl.Fact, ask impl.Atom) {
	t.Helper()
	q, seed, own, ok := impl.Magic(p, ask)
	if ok || len(q.Arity) != 0 || len(q.Rules) != 0 || !sameFact(seed, impl.Fact{}) || !sameAtom(own, impl.Atom{}) {
		t.Errorf("%s: Magic(%v, %v) = %v, %v, %v, %v", name, p, ask, q, seed, own, ok)
	}
	checkNoMagicFacts(t, name, p, db, ask)
}

func checkNoMagicFacts(t *testing.T, name string, p impl.Program, db []impl.Fact, ask impl.Atom) {
	t.Helper()
	if got, ok := impl.MagicAnswers(p, db, ask); ok || len(got) != 0 {
		t.Errorf("%s: MagicAnswers(%v, %v, %v) = %v, %v", name, p, db, ask, got, ok)
	}
	if got := impl.MagicFacts(p, db, ask); got != -1 {
		t.Errorf("%s: MagicFacts(%v, %v, %v) = %d", name, p, db, ask, got)
	}
}

func checkNoModes(t *testing.T, name string, p impl.Program, ask impl.Atom) {
	t.Helper()
	if got, ok := impl.ModesOf(p, ask); ok || len(got) != 0 {
		t.Errorf("%s: ModesOf(%v, %v) = %v, %v", name, p, ask, got, ok)
	}
}

func TestMagicOfWhatIsNone(t *testing.T) {
	good := []impl.Atom{atom(0), atom(1, varW), atom(1, 2), atom(3, 2), atom(3, varX), atom(2, varW, varX)}
	for name, p := range noPrograms() {
		for _, ask := range good {
			checkNoModes(t, name, p, ask)
			checkNoMagic(t, name, p, nil, ask)
			checkNoMagic(t, name, p, []impl.Fact{fact(1, 2)}, ask)
		}
	}
	p := growing(append(wayRules(), rule(atom(3, varW), yes(1, varW)), rule(atom(0)), rule(atom(1, 2)))...)
	none := []impl.Atom{
		atom(-1), atom(5), atom(6, 1), atom(24), atom(math.MaxInt), atom(math.MinInt), atom(0, 1), atom(0, varW), atom(1), atom(1, 2, 3), atom(3, varW, varX), atom(4, varW), atom(4, varW, varX, varY),
		atom(1, 6), atom(1, -5), atom(4, varW, 6), atom(4, -5, 1), atom(4, math.MinInt, math.MaxInt),
	}
	for _, ask := range none {
		checkNoModes(t, "an atom that is none", p, ask)
		checkNoMagic(t, "an atom that is none", p, nil, ask)
		checkNoMagic(t, "an atom that is none", p, chainOf(2, 2), ask)
	}
	checkNoModes(t, "no predicates", impl.Program{}, impl.Atom{})
	checkNoMagic(t, "no predicates", impl.Program{}, nil, impl.Atom{})
	lists := noLists()
	lists["a fact of an own predicate"] = []impl.Fact{fact(1, 2), fact(5, 1)}
	lists["a fact of a seed"] = []impl.Fact{fact(1, 2), fact(6, 1)}
	for name, list := range lists {
		for _, ask := range []impl.Atom{atom(3, 1), atom(3, varW), atom(4, 0, varW), atom(0)} {
			checkNoMagicFacts(t, name, p, list, ask)
		}
	}
}

// Denials anywhere leave no modes, also where the question does not ask for them.
func TestMagicOfWhatDenies(t *testing.T) {
	for _, denying := range []impl.Rule{rule(atom(0), no(1, 5)), rule(atom(4, varW, varX), yes(2, varW, varX), no(1, varX)), rule(atom(2, 1, 2), no(0), no(3, 1)), rule(atom(3, 1), no(3, 1))} {
		p := growing(append(wayRules(), denying)...)
		for _, ask := range []impl.Atom{atom(4, 0, varW), atom(0), atom(2, varW, varX), atom(3, 1), atom(1, 2)} {
			checkNoModes(t, "denying", p, ask)
			checkNoMagic(t, "denying", p, chainOf(2, 2), ask)
		}
	}
}

// A question of a predicate without rules has no modes, and is built into none.
func TestMagicOfNoRules(t *testing.T) {
	for _, p := range []impl.Program{growing(), growing(wayRules()...), growing(append(wayRules(), rule(atom(1, varW), yes(3, varW)))...)} {
		for _, ask := range []impl.Atom{atom(0), atom(2, varW, varX), atom(2, 1, varX), atom(2, 3, 3), atom(3, 5), atom(3, varX)} {
			if got, ok := impl.ModesOf(p, ask); !ok || len(got) != 0 {
				t.Errorf("ModesOf(%v, %v) = %v, %v", p, ask, got, ok)
			}
			checkNoMagic(t, "no rules", p, []impl.Fact{fact(0), fact(2, 1, 2), fact(3, 5)}, ask)
		}
	}
}

// Rules with all literals that there may be have no room for a seed, but do not matter where nobody asks for them.
func TestMagicOfTooManyLiterals(t *testing.T) {
	full := []impl.Rule{
		rule(atom(3, varW), yes(2, varW, varX), yes(2, varX, varY), yes(2, varY, varZ), yes(1, varZ)),
		rule(atom(3, varW), yes(4, varW, varX), less(1, 2), less(varW, varX), same(varX, 3)),
		rule(atom(3, 2), same(1, 1), same(1, 1), same(1, 1), same(1, 1)),
		rule(atom(3, 2), yes(3, 2), yes(3, 2), yes(3, 2), yes(3, 2)),
	}
	for _, r := range full {
		p := growing(append(wayRules(), r, rule(atom(1, varX), yes(3, varX)))...)
		for _, ask := range []impl.Atom{atom(3, varW), atom(3, 2), atom(1, varX), atom(1, 0)} {
			checkNoMagic(t, "too many literals", p, chainOf(2, 4), ask)
			if got, ok := impl.ModesOf(p, ask); !ok || len(got) == 0 {
				t.Errorf("ModesOf(%v, %v) = %v, %v", p, ask, got, ok)
			}
		}
		if got := impl.MagicFacts(p, chainOf(2, 4), atom(4, 0, varX)); got != 5+10 {
			t.Errorf("MagicFacts with %v, which nobody asks for, = %d", r, got)
		}
		r.Body = r.Body[:3]
		if plainSafe(r) {
			p = growing(append(wayRules(), r)...)
			if got := impl.MagicFacts(p, chainOf(2, 4), atom(3, varX)); got < 1 {
				t.Errorf("MagicFacts with %v = %d", r, got)
			}
		}
	}
}

// Each mode has two predicates besides, and there may be 24 of all.
func TestMagicOfTooManyPredicates(t *testing.T) {
	for modes := range 12 {
		chain := func(preds int) impl.Program {
			p := programWith(slices.Repeat([]int{1}, preds))
			for pred := range modes {
				p.Rules = append(p.Rules, rule(atom(pred+1, varW), yes(pred, varW)))
			}
			return p
		}
		for preds := modes + 1; preds <= impl.MaxPreds; preds++ {
			p, db, ask := chain(preds), []impl.Fact{fact(0, 4), fact(0, 5)}, atom(modes, 4)
			if modes == 0 || preds+2*modes > impl.MaxPreds {
				checkNoMagic(t, "predicates", p, db, ask)
				continue
			}
			q, seed, own, ok := impl.Magic(p, ask)
			if !ok || len(q.Arity) != preds+2*modes || len(q.Rules) != 3*modes-1 || !sameFact(seed, fact(preds+modes, 4)) || !sameAtom(own, atom(preds, 4)) {
				t.Errorf("%d predicates and %d modes: Magic = %v, %v, %v, %v", preds, modes, q, seed, own, ok)
			}
			if got := impl.MagicFacts(p, db, ask); got != 2*modes {
				t.Errorf("%d predicates and %d modes: MagicFacts = %d", preds, modes, got)
			}
		}
	}
}

// A rule is written once for each mode, with one rule more for each of its atoms that is asked, and there may be 60 of all.
func TestMagicOfTooManyRules(t *testing.T) {
	for many := 1; many <= impl.MaxRules; many++ {
		flat := programWith([]int{1}, slices.Repeat([]impl.Rule{rule(atom(0, 3))}, many)...)
		checkRuleCount(t, flat, atom(0, 3), many+1)
		asking := programWith([]int{1}, slices.Repeat([]impl.Rule{rule(atom(0, varW), yes(0, varW), yes(0, 3))}, many)...)
		checkRuleCount(t, asking, atom(0, varX), 2*(3*many+1))
	}
}

func checkRuleCount(t *testing.T, p impl.Program, ask impl.Atom, want int) {
	t.Helper()
	if want > impl.MaxRules {
		checkNoMagic(t, "rules", p, nil, ask)
		return
	}
	if q, _, _, ok := impl.Magic(p, ask); !ok || len(q.Rules) != want {
		t.Errorf("%d rules: Magic has %d, %v, want %d", len(p.Rules), len(q.Rules), ok, want)
	}
}

// everyQuestion returns all atoms of growPlaces.
func everyQuestion() []impl.Atom {
	terms := []int{varZ, varY, varX, varW, 0, 1, 2, 3, 4, 5}
	var all []impl.Atom
	for pred, places := range growPlaces {
		for n := range power(len(terms), places) {
			var args []int
			for _, at := range digits(n, len(terms), places) {
				args = append(args, terms[at])
			}
			all = append(all, atom(pred, args...))
		}
	}
	return all
}

// The twelfth promise, for all questions of some programs.
func TestMagicOfEveryQuestion(t *testing.T) {
	table := growRules()
	programs := []impl.Program{
		growing(wayRules()...),
		growing(table[3], table[5], table[9]),
		growing(table[4], table[6], table[7], table[2], table[0]),
		growing(table[1], table[7], table[8], table[10], table[3]),
		growing(table[12], table[9], table[11], table[2]),
		growing(rule(atom(4, 1, varX), yes(3, varX), yes(4, varX, 2)), rule(atom(4, varX, varX), yes(1, varX)), rule(atom(3, 2), yes(0))),
	}
	for _, p := range programs {
		for _, ask := range everyQuestion() {
			checkWritten(t, p, ask)
			checkMagic(t, p, growLists()[1:], ask)
		}
	}
}

// Programs of one to three rules of a table, and drawn ones, are held against rules that are written plainly, and against the calls
// that a question leads to.
func TestMagicAgainstPlainOnes(t *testing.T) {
	questions := []impl.Atom{
		atom(0), atom(1, varW), atom(1, 4), atom(2, varX, varW), atom(2, varX, 0), atom(3, varZ), atom(3, 5),
		atom(4, varW, varX), atom(4, varY, varY), atom(4, 1, varX), atom(4, varX, 2), atom(4, 0, 3),
	}
	table := growRules()
	counts := map[bool]int{}
	check := func(p impl.Program, at int) {
		for _, ask := range questions {
			counts[checkWritten(t, p, ask)]++
		}
		checkMagic(t, p, growLists(), questions[at%len(questions)])
	}
	for i := range table {
		for j := range table {
			check(growing(table[i], table[j]), i+j)
			check(growing(table[(i+2*j)%len(table)], table[j], table[i]), i+5*j)
		}
	}
	check(growing(table...), 11)
	next := numbersFrom(12)
	for range 600 {
		var rules []impl.Rule
		for len(rules) < 1+next(6) {
			if r := drawnRule(next); !denies(growing(r)) && (len(r.Body) < impl.MaxBody || next(8) == 0) {
				rules = append(rules, r)
			}
		}
		check(growing(rules...), next(len(questions)))
	}
	if counts[true] < 4000 || counts[false] < 2000 {
		t.Errorf("%d questions that can be built in, %d that cannot", counts[true], counts[false])
	}
}

// checkWritten holds the modes and the rules of a question against those that are written plainly, and reports whether there are rules.
func checkWritten(t *testing.T, p impl.Program, ask impl.Atom) bool {
	t.Helper()
	modes := plainModes(p, ask)
	if got, ok := impl.ModesOf(p, ask); !ok || !slices.EqualFunc(got, modes, sameMode) {
		t.Fatalf("ModesOf(%v, %v) = %v, %v, want %v", p, ask, got, ok, modes)
	}
	want := plainMagic(p, modes)
	q, seed, own, ok := impl.Magic(p, ask)
	if len(modes) == 0 || !plainFits(want) {
		checkNoMagic(t, "rules that there may not be", p, growLists()[2], ask)
		return false
	}
	if !ok || !slices.Equal(q.Arity, want.Arity) || !sameRules(q.Rules, want.Rules) {
		t.Fatalf("Magic(%v, %v) = %v, %v, want %v", p, ask, q, ok, want)
	}
	begin := impl.Fact{Pred: len(p.Arity) + len(modes), Args: slices.DeleteFunc(slices.Clone(ask.Args), isVariable)}
	if !sameFact(seed, begin) || !sameAtom(own, impl.Atom{Pred: len(p.Arity), Args: ask.Args}) {
		t.Fatalf("Magic(%v, %v) has the fact %v and the atom %v", p, ask, seed, own)
	}
	return true
}

// checkMagic holds what the rules of a question say of some lists against what all rules say, and the calls to which the question leads.
func checkMagic(t *testing.T, p impl.Program, lists [][]impl.Fact, ask impl.Atom) {
	t.Helper()
	q, seed, _, ok := impl.Magic(p, ask)
	if !ok {
		return
	}
	modes := plainModes(p, ask)
	for _, db := range lists {
		least := impl.Least(p, db)
		calls := plainCalls(p, least, modes, ask)
		said := db
		for at, m := range modes {
			for _, f := range least {
				if f.Pred == m.Pred && slices.ContainsFunc(calls, func(c impl.Fact) bool { return c.Pred == at && isAnswer(m, c, f) }) {
					said = plainWith(said, impl.Fact{Pred: len(p.Arity) + at, Args: f.Args})
				}
			}
		}
		for _, c := range calls {
			said = plainWith(said, impl.Fact{Pred: len(p.Arity) + len(modes) + c.Pred, Args: c.Args})
		}
		if got, ok := impl.Model(q, plainWith(db, seed)); !ok || !sameFacts(got, said) {
			t.Fatalf("Magic(%v, %v) says of %v %v, want %v", p, ask, db, got, said)
		}
		if got := impl.MagicFacts(p, db, ask); got != len(said)-len(db) {
			t.Fatalf("MagicFacts(%v, %v, %v) = %d, want %d", p, db, ask, got, len(said)-len(db))
		}
		want := slices.DeleteFunc(least, func(f impl.Fact) bool { return plainMatch(ask, f, nothing()) == nil })
		if got, ok := impl.MagicAnswers(p, db, ask); !ok || !sameFacts(got, want) {
			t.Fatalf("MagicAnswers(%v, %v, %v) = %v, %v, want %v", p, db, ask, got, ok, want)
		}
	}
}

// As many facts as there may be, and questions of all of them.
func TestMagicOfAllFacts(t *testing.T) {
	ways := growing(wayRules()...)
	db := impl.AllFacts(2, 2)
	cases := []struct {
		ask  impl.Atom
		many int
		more int
	}{
		{atom(4, varW, varX), 36, 1 + 36 + 6 + 36},
		{atom(4, varZ, varZ), 6, 1 + 36 + 6 + 36},
		{atom(4, 5, varX), 6, 6 + 36},
		{atom(4, varX, 5), 6, 1 + 6 + 6 + 6},
		{atom(4, 5, 0), 1, 6 + 6},
	}
	for _, c := range cases {
		if got, ok := impl.MagicAnswers(ways, db, c.ask); !ok || len(got) != c.many || !ascending(got) {
			t.Errorf("MagicAnswers(.., %v) has %d facts, %v", c.ask, len(got), ok)
		}
		if got := impl.MagicFacts(ways, db, c.ask); got != c.more {
			t.Errorf("MagicFacts(.., %v) = %d, want %d", c.ask, got, c.more)
		}
	}
	all := allOf(growPlaces)
	if got, ok := impl.MagicAnswers(ways, all, atom(4, varW, 3)); !ok || len(got) != 6 {
		t.Errorf("MagicAnswers of all facts has %d, %v", len(got), ok)
	}
	p := counting(3)
	p.Rules = append(p.Rules, rule(atom(1, 0, 0)))
	for pred := 1; pred <= 3; pred++ {
		if got, ok := impl.MagicAnswers(p, chainOf(0, 5), atom(pred, varW, varX)); !ok || !sameFacts(got, impl.AllFacts(pred, 2)) {
			t.Errorf("MagicAnswers of the counter %d has %d facts, %v", pred, len(got), ok)
		}
	}
}

func TestMagicNilIsEmpty(t *testing.T) {
	for _, args := range [][]int{nil, {}} {
		for _, body := range [][]impl.Lit{nil, {}} {
			for _, db := range [][]impl.Fact{nil, {}, {{Args: args}}} {
				p := programWith([]int{0, 0}, impl.Rule{Head: impl.Atom{Pred: 1, Args: args}, Body: body}, rule(atom(0), impl.Lit{Atom: impl.Atom{Pred: 1, Args: args}}))
				ask := impl.Atom{Args: args}
				if got, ok := impl.ModesOf(p, ask); !ok || !slices.EqualFunc(got, []impl.Mode{mode(0), mode(1)}, sameMode) {
					t.Errorf("ModesOf = %v, %v", got, ok)
				}
				q, seed, own, ok := impl.Magic(p, ask)
				if !ok || len(q.Rules) != 5 || !sameFact(seed, fact(4)) || !sameAtom(own, atom(2)) {
					t.Errorf("Magic = %v, %v, %v, %v", q, seed, own, ok)
				}
				if got, ok := impl.MagicAnswers(p, db, ask); !ok || !sameFacts(got, []impl.Fact{fact(0)}) || impl.MagicFacts(p, db, ask) != 4 {
					t.Errorf("MagicAnswers = %v, %v, and there are %d facts", got, ok, impl.MagicFacts(p, db, ask))
				}
			}
		}
		for _, p := range []impl.Program{{Arity: []int{0}}, {Arity: []int{0}, Rules: []impl.Rule{}}} {
			if got, ok := impl.ModesOf(p, impl.Atom{Args: args}); !ok || len(got) != 0 {
				t.Errorf("ModesOf without rules = %v, %v", got, ok)
			}
			checkNoMagic(t, "no rules", p, nil, impl.Atom{Args: args})
			checkNoMagic(t, "no rules", p, []impl.Fact{{Args: args}}, impl.Atom{Args: args})
		}
	}
}

func TestMagicArgumentsAreNotChanged(t *testing.T) {
	table := growRules()
	for i := range table {
		p := roomyProgram(growing(table[i], table[(i+1)%len(table)], table[(i+5)%len(table)]))
		for _, list := range growLists() {
			for _, plain := range []impl.Atom{atom(4, varW, varX), atom(4, 1, varX), atom(1, varZ), atom(3, 5), atom(2, varX, 0)} {
				db, ask := roomy(list), roomyAtom(plain)
				wantProgram, wantList, wantAsk := programNumbers(p), deepCopy(whole(db)), slices.Clone(ask.Args[:cap(ask.Args)])
				impl.ModesOf(p, ask)
				impl.Magic(p, ask)
				impl.MagicAnswers(p, db, ask)
				impl.MagicFacts(p, db, ask)
				if !slices.Equal(programNumbers(p), wantProgram) || !sameFacts(whole(db), wantList) || !slices.Equal(ask.Args[:cap(ask.Args)], wantAsk) {
					t.Fatalf("an argument is changed by %v and %v", p, plain)
				}
			}
		}
	}
}

// magicLists returns all lists of numbers of what Magic returns.
func magicLists(q impl.Program, seed impl.Fact, own impl.Atom) [][]int {
	lists := [][]int{q.Arity, seed.Args, own.Args}
	for _, r := range q.Rules {
		lists = append(lists, ruleArgs(r)...)
	}
	return lists
}

func TestMagicSharesNothing(t *testing.T) {
	for _, c := range magicCases() {
		p, ask := roomyProgram(growing(c.rules...)), roomyAtom(c.ask)
		wantProgram, wantAsk := programNumbers(p), slices.Clone(ask.Args[:cap(ask.Args)])
		unchanged := func() bool {
			return slices.Equal(programNumbers(p), wantProgram) && slices.Equal(ask.Args[:cap(ask.Args)], wantAsk)
		}
		checkNumbersApart(t, magicLists(magicOf(p, ask)))
		for at := range c.want {
			first, _, _ := magicOf(p, ask)
			second, _, _ := magicOf(p, ask)
			scribbleRule(first.Rules[at])
			first.Rules[at] = c.want[at]
			for _, got := range []impl.Program{first, second} {
				if !sameRules(got.Rules, c.want) {
					t.Fatalf("%s: writing to the rule %d changes another one", c.name, at)
				}
			}
		}
		q, seed, own := magicOf(p, ask)
		other, otherSeed, otherOwn := magicOf(p, ask)
		for _, list := range magicLists(q, seed, own) {
			fill(list[:cap(list)])
		}
		clear(q.Rules[:cap(q.Rules)])
		if !sameRules(other.Rules, c.want) || !slices.Equal(other.Arity[5:], c.arity) || !sameFact(otherSeed, c.seed) || !sameAtom(otherOwn, c.own) {
			t.Errorf("%s: two results share memory", c.name)
		}
		if !unchanged() {
			t.Errorf("%s: writing to a result changes an argument", c.name)
		}
		for _, r := range p.Rules {
			scribbleRule(r)
		}
		fill(p.Arity[:cap(p.Arity)])
		fill(ask.Args[:cap(ask.Args)])
		if !sameRules(other.Rules, c.want) || !slices.Equal(other.Arity[5:], c.arity) || !sameFact(otherSeed, c.seed) || !sameAtom(otherOwn, c.own) {
			t.Errorf("%s: writing to an argument changes a result", c.name)
		}
	}
}

func magicOf(p impl.Program, ask impl.Atom) (impl.Program, impl.Fact, impl.Atom) {
	q, seed, own, _ := impl.Magic(p, ask)
	return q, seed, own
}

func TestModesAndMagicAnswersShareNothing(t *testing.T) {
	p := roomyProgram(growing(append(wayRules(), rule(atom(1, varX), yes(4, varX, varX), yes(4, 0, varX)))...))
	db := roomy([]impl.Fact{fact(1, 4), fact(2, 0, 1), fact(2, 1, 0), fact(2, 1, 2), fact(4, 3, 5)})
	wantProgram, wantList := programNumbers(p), deepCopy(whole(db))
	unchanged := func() bool { return sameFacts(whole(db), wantList) && slices.Equal(programNumbers(p), wantProgram) }
	calls := map[string]func() []impl.Fact{
		"MagicAnswers":             func() []impl.Fact { got, _ := impl.MagicAnswers(p, db, atom(4, varW, varX)); return got },
		"MagicAnswers, given ones": func() []impl.Fact { got, _ := impl.MagicAnswers(p, db, atom(4, 3, varX)); return got },
		"MagicAnswers of 1":        func() []impl.Fact { got, _ := impl.MagicAnswers(p, db, atom(1, varX)); return got },
	}
	checkCallsApart(t, calls, unchanged)
	known := func() [][]bool {
		modes, _ := impl.ModesOf(p, atom(1, varX))
		var rows [][]bool
		for _, m := range modes {
			rows = append(rows, m.Known)
		}
		return rows
	}
	if got := known(); len(got) != 4 {
		t.Fatalf("%d modes", len(got))
	}
	checkApart(t, "ModesOf", known, true)
	checkApart(t, "ModesOf", known, false)
	first, _ := impl.ModesOf(p, atom(1, varX))
	second, _ := impl.ModesOf(p, atom(1, varX))
	clear(first[:cap(first)])
	if !slices.EqualFunc(second, []impl.Mode{mode(1, false), mode(4, false, false), mode(4, true, true), mode(4, true, false)}, sameMode) {
		t.Errorf("ModesOf = %v", second)
	}
}

func isVariable(term int) bool {
	return term < 0
}

func isHead(p impl.Program, pred int) bool {
	return slices.ContainsFunc(p.Rules, func(r impl.Rule) bool { return r.Head.Pred == pred })
}

// plainMode returns the mode of an atom of which some terms are known besides constants.
func plainMode(a impl.Atom, known map[int]bool) impl.Mode {
	m := impl.Mode{Pred: a.Pred}
	for _, term := range a.Args {
		m.Known = append(m.Known, term >= 0 || known[term])
	}
	return m
}

func modeIndex(modes []impl.Mode, m impl.Mode) int {
	return slices.IndexFunc(modes, func(other impl.Mode) bool { return sameMode(m, other) })
}

// knownArgs returns the terms at the known places of a mode.
func knownArgs(m impl.Mode, args []int) []int {
	var out []int
	for place, known := range m.Known {
		if known {
			out = append(out, args[place])
		}
	}
	return out
}

func knownTerms(m impl.Mode, head impl.Atom) map[int]bool {
	known := map[int]bool{}
	for _, term := range knownArgs(m, head.Args) {
		known[term] = true
	}
	return known
}

func plainModes(p impl.Program, ask impl.Atom) []impl.Mode {
	var modes []impl.Mode
	meet := func(m impl.Mode) {
		if isHead(p, m.Pred) && modeIndex(modes, m) < 0 {
			modes = append(modes, m)
		}
	}
	meet(plainMode(ask, nil))
	for i := 0; i < len(modes); i++ {
		for _, r := range p.Rules {
			if r.Head.Pred != modes[i].Pred {
				continue
			}
			known := knownTerms(modes[i], r.Head)
			for _, l := range r.Body {
				if l.Kind == impl.LitYes {
					meet(plainMode(l.Atom, known))
					for _, term := range l.Atom.Args {
						known[term] = true
					}
				}
			}
		}
	}
	return modes
}

// plainMagic writes the rules of a question, also if there are too many.
func plainMagic(p impl.Program, modes []impl.Mode) impl.Program {
	q := programWith(slices.Clone(p.Arity))
	own := func(m impl.Mode, args []int) impl.Atom { return atom(len(p.Arity)+modeIndex(modes, m), args...) }
	seed := func(m impl.Mode, args []int) impl.Atom {
		return atom(len(p.Arity)+len(modes)+modeIndex(modes, m), knownArgs(m, args)...)
	}
	for _, m := range modes {
		q.Arity = append(q.Arity, len(m.Known))
		all := []int{varW, varX}[:len(m.Known)]
		q.Rules = append(q.Rules, rule(own(m, all), impl.Lit{Atom: seed(m, all)}, yes(m.Pred, all...)))
		for _, at := range impl.RulesOf(p, m.Pred) {
			r, known := p.Rules[at], knownTerms(m, p.Rules[at].Head)
			body := []impl.Lit{{Atom: seed(m, r.Head.Args)}}
			for _, l := range r.Body {
				asked := plainMode(l.Atom, known)
				if l.Kind == impl.LitYes && isHead(p, asked.Pred) {
					compares := func(l impl.Lit) bool { return l.Kind != impl.LitYes }
					q.Rules = append(q.Rules, rule(seed(asked, l.Atom.Args), slices.DeleteFunc(slices.Clone(body), compares)...))
					l.Atom = own(asked, l.Atom.Args)
				}
				body = append(body, l)
				for _, term := range l.Atom.Args {
					known[term] = known[term] || l.Kind == impl.LitYes
				}
			}
			q.Rules = append(q.Rules, rule(own(m, r.Head.Args), body...))
		}
	}
	for _, m := range modes {
		q.Arity = append(q.Arity, len(knownArgs(m, make([]int, 2))))
	}
	return q
}

// plainFits tells whether rules that are written are not too many, nor too long, nor of too many predicates.
func plainFits(p impl.Program) bool {
	long := func(r impl.Rule) bool { return len(r.Body) > 4 }
	return len(p.Arity) <= 24 && len(p.Rules) <= 60 && !slices.ContainsFunc(p.Rules, long)
}

// plainCalls returns the calls to which a question leads over what all rules say: facts of the index of a mode, and of the constants
// that are known. What is known of an atom is told by what its variables have when the atoms ahead of it are facts.
func plainCalls(p impl.Program, least []impl.Fact, modes []impl.Mode, ask impl.Atom) []impl.Fact {
	calls := []impl.Fact{plainCall(modes, ask, nothing())}
	for i := 0; i < len(calls); i++ {
		m := modes[calls[i].Pred]
		for _, r := range p.Rules {
			if r.Head.Pred != m.Pred {
				continue
			}
			begin := plainMatch(atom(0, knownArgs(m, r.Head.Args)...), fact(0, calls[i].Args...), nothing())
			binds := slices.DeleteFunc([][]int{begin}, isEmpty)
			for _, l := range r.Body {
				if l.Kind != impl.LitYes {
					continue
				}
				var next [][]int
				for _, bind := range binds {
					if c := plainCall(modes, l.Atom, bind); isHead(p, l.Atom.Pred) && !plainHas(calls, c) {
						calls = append(calls, c)
					}
					for _, f := range least {
						if with := plainMatch(l.Atom, f, bind); with != nil {
							next = append(next, with)
						}
					}
				}
				binds = next
			}
		}
	}
	return calls
}

func plainCall(modes []impl.Mode, a impl.Atom, bind []int) impl.Fact {
	m := impl.Mode{Pred: a.Pred}
	var values []int
	for _, term := range a.Args {
		if isVariable(term) {
			term = bind[-1-term]
		}
		m.Known = append(m.Known, term >= 0)
		values = append(values, term)
	}
	return fact(modeIndex(modes, m), knownArgs(m, values)...)
}

// isAnswer tells whether a fact of a mode's predicate has the constants of a call.
func isAnswer(m impl.Mode, call, f impl.Fact) bool {
	return slices.Equal(knownArgs(m, f.Args), call.Args)
}

func sameMode(a, b impl.Mode) bool {
	return a.Pred == b.Pred && slices.Equal(a.Known, b.Known)
}
