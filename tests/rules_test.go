package tests

import (
	"math"
	"slices"
	"testing"

	"loop.example/wholerules/impl"
)

// The terms of the variables 0 to 3.
const (
	varW = -1
	varX = -2
	varY = -3
	varZ = -4
)

// rulePlaces are the places of the predicates that most rules here are of.
var rulePlaces = []int{0, 1, 2}

func TestAtomOk(t *testing.T) {
	cases := []struct {
		name  string
		arity []int
		atom  impl.Atom
		want  bool
	}{
		{"no places, nil", rulePlaces, impl.Atom{Pred: 0}, true},
		{"no places, empty", rulePlaces, impl.Atom{Pred: 0, Args: []int{}}, true},
		{"least constant", rulePlaces, atom(1, 0), true},
		{"greatest constant", rulePlaces, atom(1, 5), true},
		{"first variable", rulePlaces, atom(1, -1), true},
		{"last variable", rulePlaces, atom(1, -4), true},
		{"constant and variable", rulePlaces, atom(2, 3, varY), true},
		{"a variable twice", rulePlaces, atom(2, varX, varX), true},
		{"constant too great", rulePlaces, atom(1, 6), false},
		{"variable too many", rulePlaces, atom(1, -5), false},
		{"second term is too great", rulePlaces, atom(2, 0, 6), false},
		{"second term is a variable too many", rulePlaces, atom(2, varW, -5), false},
		{"greatest number", rulePlaces, atom(1, math.MaxInt), false},
		{"least number", rulePlaces, atom(1, math.MinInt), false},
		{"a term too many for no places", rulePlaces, atom(0, varW), false},
		{"too few", rulePlaces, atom(1), false},
		{"too few of two", rulePlaces, atom(2, varW), false},
		{"too many", rulePlaces, atom(2, varW, varX, varY), false},
		{"predicate below 0", rulePlaces, atom(-1), false},
		{"predicate past the end", rulePlaces, atom(3), false},
		{"no predicates", nil, atom(0), false},
		{"a later predicate is none", []int{1, 3}, atom(0, varW), false},
		{"an earlier predicate is none", []int{-1, 1}, atom(1, varW), false},
		{"places that there may not be", []int{3}, atom(0, varW, varX, varY), false},
		{"last of all predicates", make([]int, impl.MaxPreds), atom(impl.MaxPreds - 1), true},
		{"too many predicates", make([]int, impl.MaxPreds+1), atom(0), false},
	}
	for _, c := range cases {
		if got := impl.AtomOk(c.arity, c.atom); got != c.want {
			t.Errorf("%s: AtomOk(%v, %v) = %v", c.name, c.arity, c.atom, got)
		}
		for _, kind := range []int{impl.LitYes, impl.LitNo} {
			if got := impl.LitOk(c.arity, impl.Lit{Kind: kind, Atom: c.atom}); got != c.want {
				t.Errorf("%s: LitOk(%v, %d of %v) = %v", c.name, c.arity, kind, c.atom, got)
			}
		}
	}
}

func TestLitOkOfTwoTerms(t *testing.T) {
	cases := []struct {
		name  string
		arity []int
		atom  impl.Atom
		want  bool
	}{
		{"variables", rulePlaces, atom(0, varW, varZ), true},
		{"constants", rulePlaces, atom(0, 0, 5), true},
		{"the same term", rulePlaces, atom(0, varX, varX), true},
		{"no predicates at all", nil, atom(0, varW, 1), true},
		{"the predicate 0 has two places", []int{2}, atom(0, varW, 1), true},
		{"another predicate of two places", rulePlaces, atom(2, varW, varX), false},
		{"predicate below 0", rulePlaces, atom(-1, varW, varX), false},
		{"predicate past the end", rulePlaces, atom(3, varW, varX), false},
		{"no terms", rulePlaces, atom(0), false},
		{"one term", rulePlaces, atom(0, varW), false},
		{"three terms", rulePlaces, atom(0, varW, varX, varY), false},
		{"first is none", rulePlaces, atom(0, -5, varX), false},
		{"second is none", rulePlaces, atom(0, varW, 6), false},
		{"wrong places", []int{3}, atom(0, varW, varX), false},
		{"too many predicates", make([]int, impl.MaxPreds+1), atom(0, varW, varX), false},
	}
	for _, c := range cases {
		for _, kind := range []int{impl.LitSame, impl.LitLess} {
			if got := impl.LitOk(c.arity, impl.Lit{Kind: kind, Atom: c.atom}); got != c.want {
				t.Errorf("%s: LitOk(%v, %d of %v) = %v", c.name, c.arity, kind, c.atom, got)
			}
		}
	}
}

func TestLitOkOfOtherKinds(t *testing.T) {
	for _, kind := range []int{-1, 4, math.MinInt, math.MaxInt} {
		for _, a := range []impl.Atom{atom(0), atom(1, 2), atom(2, varW, varX), atom(0, varW, varX)} {
			if impl.LitOk(rulePlaces, impl.Lit{Kind: kind, Atom: a}) {
				t.Errorf("LitOk takes the kind %d of %v", kind, a)
			}
		}
	}
}

func TestVarsOf(t *testing.T) {
	cases := []struct {
		name string
		rule impl.Rule
		want []int
	}{
		{"no terms", rule(atom(0)), nil},
		{"constants alone", rule(atom(2, 0, 5), yes(1, 3)), nil},
		{"head alone", rule(atom(2, varY, varW)), []int{0, 2}},
		{"body alone", rule(atom(0), yes(2, varZ, varX)), []int{1, 3}},
		{"each kind of literal", rule(atom(0), yes(1, varZ), no(1, varY), same(varX, 1), less(2, varW)), []int{0, 1, 2, 3}},
		{"other kinds too", rule(atom(0), impl.Lit{Kind: 7, Atom: atom(1, varY)}, impl.Lit{Kind: -1, Atom: atom(1, varW)}), []int{0, 2}},
		{"many times", rule(atom(2, varX, varX), yes(2, varX, varX), no(1, varX)), []int{1}},
		{"other numbers", rule(atom(2, -5, 6), yes(2, math.MinInt, varZ), yes(2, math.MaxInt, -6)), []int{3}},
		{"more terms than places", rule(atom(9, 1, 2, 3, varZ, -9, varW)), []int{0, 3}},
		{"more literals than a rule has", rule(atom(0), yes(0), yes(0), yes(0), yes(0), yes(0), yes(1, varY)), []int{2}},
	}
	for _, c := range cases {
		if got := impl.VarsOf(c.rule); !slices.Equal(got, c.want) {
			t.Errorf("%s: VarsOf(%v) = %v", c.name, c.rule, got)
		}
	}
}

func TestRuleSafe(t *testing.T) {
	cases := []struct {
		name string
		rule impl.Rule
		want bool
	}{
		{"nothing", impl.Rule{}, true},
		{"no body, constants", rule(atom(2, 0, 5)), true},
		{"no body, a variable", rule(atom(2, 0, varW)), false},
		{"empty body, a variable", impl.Rule{Head: atom(1, varW), Body: []impl.Lit{}}, false},
		{"all of the head in the body", rule(atom(2, varW, varX), yes(2, varX, varW)), true},
		{"one of the head in none", rule(atom(2, varW, varX), yes(1, varW)), false},
		{"in several atoms", rule(atom(2, varW, varX), yes(1, varX), yes(1, varW)), true},
		{"body has more than the head", rule(atom(0), yes(2, varY, varZ)), true},
		{"denied alone", rule(atom(0), no(1, varW)), false},
		{"denied ahead", rule(atom(0), no(1, varW), yes(1, varW)), true},
		{"denied behind", rule(atom(0), yes(1, varW), no(1, varW)), true},
		{"denied, without variables", rule(atom(0), no(1, 3)), true},
		{"same alone", rule(atom(0), same(varW, 1)), false},
		{"same as one that is there", rule(atom(0), yes(1, varX), same(varW, varX)), false},
		{"head is the same as one that is there", rule(atom(1, varW), yes(1, varX), same(varW, varX)), false},
		{"same, both there", rule(atom(0), same(varW, varX), yes(2, varW, varX)), true},
		{"less alone", rule(atom(0), less(1, varZ)), false},
		{"less, the first is not there", rule(atom(0), yes(1, varX), less(varZ, varX)), false},
		{"less, both there", rule(atom(0), yes(1, varX), less(varZ, varX), yes(1, varZ)), true},
		{"other numbers are passed over", rule(atom(2, -5, 6), no(2, math.MinInt, 9), same(-6, -7)), true},
		{"another kind gives nothing", rule(atom(0), impl.Lit{Kind: 4, Atom: atom(1, varW)}), false},
		{"a kind below 0 gives nothing", rule(atom(1, varY), impl.Lit{Kind: -1, Atom: atom(1, varY)}), false},
		{"whatever the predicates are", rule(atom(-8, varY), yes(99, 1, 2, 3, varY)), true},
		{"in a literal past the most", rule(atom(1, varZ), yes(0), yes(0), yes(0), yes(0), yes(1, varZ)), true},
	}
	for _, c := range cases {
		if got := impl.RuleSafe(c.rule); got != c.want {
			t.Errorf("%s: RuleSafe(%v) = %v", c.name, c.rule, got)
		}
	}
}

func TestRuleOk(t *testing.T) {
	full := []impl.Lit{yes(2, varW, varX), no(2, varX, varW), same(varW, varX), less(varX, 5)}
	cases := []struct {
		name  string
		arity []int
		rule  impl.Rule
		want  bool
	}{
		{"no body", rulePlaces, rule(atom(1, 3)), true},
		{"no body, no places", rulePlaces, rule(atom(0)), true},
		{"no body, a variable", rulePlaces, rule(atom(1, varW)), false},
		{"each kind", rulePlaces, rule(atom(2, varX, varW), full...), true},
		{"a literal too many", rulePlaces, rule(atom(0), append(slices.Clone(full), yes(0))...), false},
		{"head of too few terms", rulePlaces, rule(atom(1), yes(0)), false},
		{"head of no predicate", rulePlaces, rule(atom(3), yes(0)), false},
		{"head with a number that is no term", rulePlaces, rule(atom(1, 6), yes(0)), false},
		{"head with a variable too many", rulePlaces, rule(atom(1, -5), yes(0)), false},
		{"first literal is none", rulePlaces, rule(atom(0), yes(1), yes(0)), false},
		{"last literal is none", rulePlaces, rule(atom(0), yes(0), yes(0), yes(0), yes(3)), false},
		{"a literal of another kind", rulePlaces, rule(atom(0), impl.Lit{Kind: 4, Atom: atom(0)}), false},
		{"denied atom of no predicate", rulePlaces, rule(atom(0), no(-1)), false},
		{"same with a predicate", rulePlaces, rule(atom(0), yes(2, varW, varX), impl.Lit{Kind: impl.LitSame, Atom: atom(2, varW, varX)}), false},
		{"less of one term", rulePlaces, rule(atom(0), yes(1, varW), less(varW)), false},
		{"not safe in the head", rulePlaces, rule(atom(1, varX), yes(1, varW)), false},
		{"not safe in the body", rulePlaces, rule(atom(0), yes(1, varW), less(varW, varX)), false},
		{"no predicates", nil, rule(atom(0)), false},
		{"places of another predicate are wrong", []int{0, 3}, rule(atom(0)), false},
		{"too many predicates", make([]int, impl.MaxPreds+1), rule(atom(0)), false},
	}
	for _, c := range cases {
		if got := impl.RuleOk(c.arity, c.rule); got != c.want {
			t.Errorf("%s: RuleOk(%v, %v) = %v", c.name, c.arity, c.rule, got)
		}
	}
}

func TestProgramOk(t *testing.T) {
	good := rule(atom(1, varW), yes(2, varW, varX), no(1, varX))
	most := slices.Repeat([]impl.Rule{good}, impl.MaxRules)
	unsafeLast := append(slices.Clone(most[1:]), rule(atom(1, varW)))
	cases := []struct {
		name string
		p    impl.Program
		want bool
	}{
		{"nothing", impl.Program{}, true},
		{"empty", impl.Program{Arity: []int{}, Rules: []impl.Rule{}}, true},
		{"predicates alone", impl.Program{Arity: rulePlaces}, true},
		{"the most predicates", impl.Program{Arity: make([]int, impl.MaxPreds)}, true},
		{"too many predicates", impl.Program{Arity: make([]int, impl.MaxPreds+1)}, false},
		{"wrong places", impl.Program{Arity: []int{3}}, false},
		{"places below 0", impl.Program{Arity: []int{0, -1}, Rules: []impl.Rule{rule(atom(0))}}, false},
		{"a rule", program(good), true},
		{"a rule twice", program(good, good), true},
		{"the most rules", program(most...), true},
		{"a rule too many", program(append(slices.Clone(most), good)...), false},
		{"last of the most is not safe", program(unsafeLast...), false},
		{"first is none", program(rule(atom(3)), good), false},
		{"last is none", program(good, rule(atom(1, 9))), false},
		{"one has too many literals", program(good, rule(atom(0), yes(0), yes(0), yes(0), yes(0), yes(0))), false},
		{"rules without predicates", impl.Program{Rules: []impl.Rule{rule(atom(0))}}, false},
		{"rules that ask themselves by a denial", program(rule(atom(0), no(0))), true},
	}
	for _, c := range cases {
		if got := impl.ProgramOk(c.p); got != c.want {
			t.Errorf("%s: ProgramOk = %v", c.name, got)
		}
		if got := impl.Positive(c.p); got != (c.want && !denies(c.p)) {
			t.Errorf("%s: Positive = %v", c.name, got)
		}
	}
}

func TestPositive(t *testing.T) {
	cases := []struct {
		name string
		p    impl.Program
		want bool
	}{
		{"no rules", program(), true},
		{"no body", program(rule(atom(1, 3))), true},
		{"each kind but a denial", program(rule(atom(1, varW), yes(2, varW, varX), same(varW, varX), less(varX, 5))), true},
		{"a denial, last of all", program(rule(atom(0)), rule(atom(1, varW), yes(1, varW), no(0))), false},
		{"a denial, first of all", program(rule(atom(0), no(1, 3), yes(0)), rule(atom(0))), false},
		{"not safe", program(rule(atom(1, varW))), false},
		{"places that there may not be", impl.Program{Arity: []int{3}}, false},
		{"a rule too many", program(slices.Repeat([]impl.Rule{rule(atom(0))}, impl.MaxRules+1)...), false},
		{"the most rules", program(slices.Repeat([]impl.Rule{rule(atom(0))}, impl.MaxRules)...), true},
	}
	for _, c := range cases {
		if got := impl.Positive(c.p); got != c.want {
			t.Errorf("%s: Positive = %v", c.name, got)
		}
	}
}

func TestHeadsOf(t *testing.T) {
	facts := func(preds ...int) []impl.Rule {
		var rules []impl.Rule
		for _, pred := range preds {
			rules = append(rules, rule(atom(pred)))
		}
		return rules
	}
	cases := []struct {
		name string
		p    impl.Program
		want []int
	}{
		{"nothing", impl.Program{}, nil},
		{"no rules", program(), nil},
		{"out of order, and again", impl.Program{Arity: make([]int, 9), Rules: facts(8, 3, 8, 0, 3)}, []int{0, 3, 8}},
		{"bodies do not count", program(rule(atom(1, varW), yes(2, varW, varW), no(0))), []int{1}},
		{"all predicates", impl.Program{Arity: make([]int, 3), Rules: facts(2, 1, 0)}, []int{0, 1, 2}},
		{"predicates without places", impl.Program{Arity: []int{0, 1, 0}, Rules: facts(2, 0)}, []int{0, 2}},
		{"past the end", impl.Program{Arity: make([]int, 3), Rules: facts(3, 2, math.MaxInt)}, []int{2}},
		{"below 0", impl.Program{Arity: make([]int, 3), Rules: facts(-1, 1, math.MinInt)}, []int{1}},
		{"no predicates", impl.Program{Rules: facts(0)}, nil},
		{"the most predicates", impl.Program{Arity: make([]int, 24), Rules: facts(24, 23, 22)}, []int{22, 23}},
		{"too many predicates", impl.Program{Arity: make([]int, 70), Rules: facts(64, 24, 23, 69)}, []int{23}},
		{"whatever the places", impl.Program{Arity: []int{-4, 99}, Rules: facts(1, 0)}, []int{0, 1}},
		{"rules that are none", impl.Program{Arity: rulePlaces, Rules: []impl.Rule{rule(atom(1, 77, varW), yes(9))}}, []int{1}},
		{"more rules than there may be", impl.Program{Arity: make([]int, 2), Rules: append(facts(make([]int, 80)...), facts(1)...)}, []int{0, 1}},
	}
	for _, c := range cases {
		if got := impl.HeadsOf(c.p); !slices.Equal(got, c.want) {
			t.Errorf("%s: HeadsOf = %v", c.name, got)
		}
	}
}

func TestRulesOf(t *testing.T) {
	rules := []impl.Rule{
		rule(atom(2, 1, 1)), rule(atom(-1)), rule(atom(1, varW), yes(2, varW, 0)), rule(atom(2)), rule(atom(30), yes(1, 2)), rule(atom(2, 1, 1)),
	}
	cases := []struct {
		pred int
		want []int
	}{
		{2, []int{0, 3, 5}},
		{1, []int{2}},
		{0, nil},
		{-1, []int{1}},
		{30, []int{4}},
		{math.MinInt, nil},
	}
	for _, c := range cases {
		for _, arity := range [][]int{rulePlaces, nil, make([]int, 99)} {
			if got := impl.RulesOf(impl.Program{Arity: arity, Rules: rules}, c.pred); !slices.Equal(got, c.want) {
				t.Errorf("RulesOf(.., %d) = %v", c.pred, got)
			}
		}
	}
	if len(impl.RulesOf(impl.Program{}, 0)) != 0 {
		t.Error("RulesOf of no rules")
	}
	many := impl.Program{Rules: slices.Repeat([]impl.Rule{rule(atom(0))}, impl.MaxRules+5)}
	if got := impl.RulesOf(many, 0); len(got) != impl.MaxRules+5 || got[impl.MaxRules+4] != impl.MaxRules+4 {
		t.Errorf("RulesOf of too many rules = %v", got)
	}
}

func TestRenamed(t *testing.T) {
	cases := []struct {
		name string
		rule impl.Rule
		want impl.Rule
	}{
		{"the document's example", rule(atom(2, varX, varW), yes(0, varX, varW)), rule(atom(2, varW, varX), yes(0, varW, varX))},
		{"nothing", impl.Rule{}, impl.Rule{}},
		{"constants stay", rule(atom(2, 5, 0), yes(1, 3)), rule(atom(2, 5, 0), yes(1, 3))},
		{"head first", rule(atom(1, varZ), yes(2, varW, varZ)), rule(atom(1, varW), yes(2, varX, varW))},
		{"body in order", rule(atom(0), yes(1, varY), yes(2, varZ, varW)), rule(atom(0), yes(1, varW), yes(2, varX, varY))},
		{"every kind of literal", rule(atom(0), no(1, varZ), same(varY, varZ), less(varX, varY), yes(1, varW)),
			rule(atom(0), no(1, varW), same(varX, varW), less(varY, varX), yes(1, varZ))},
		{"in order already", rule(atom(2, varW, varX), yes(2, varX, varY)), rule(atom(2, varW, varX), yes(2, varX, varY))},
		{"one variable twice", rule(atom(2, varZ, varZ)), rule(atom(2, varW, varW))},
		{"a rule that is none", rule(atom(-7, varZ, 1, varX), impl.Lit{Kind: 9, Atom: atom(88, varX, varY, varZ)}),
			rule(atom(-7, varW, 1, varX), impl.Lit{Kind: 9, Atom: atom(88, varX, varY, varW)})},
		{"more literals than a rule has", rule(atom(0), yes(1, varZ), yes(0), yes(0), yes(0), yes(0), yes(1, varY)),
			rule(atom(0), yes(1, varW), yes(0), yes(0), yes(0), yes(0), yes(1, varX))},
		{"head with a constant too great", rule(atom(2, varX, 6), yes(1, varX)), impl.Rule{}},
		{"head with a variable too many", rule(atom(2, -5, varX), yes(1, varX)), impl.Rule{}},
		{"last literal has no term", rule(atom(1, varX), yes(1, varX), yes(1, varX), no(2, varX, 6)), impl.Rule{}},
		{"a literal of two numbers, one no term", rule(atom(1, varX), same(varX, -5), yes(1, varX)), impl.Rule{}},
		{"a literal of another kind has no term", rule(atom(1, 3), impl.Lit{Kind: 5, Atom: atom(1, 6)}), impl.Rule{}},
		{"least number", rule(atom(1, math.MinInt)), impl.Rule{}},
		{"greatest number", rule(atom(1, varX), yes(1, math.MaxInt)), impl.Rule{}},
	}
	for _, c := range cases {
		if got := impl.Renamed(c.rule); !sameRule(got, c.want) {
			t.Errorf("%s: Renamed(%v) = %v, want %v", c.name, c.rule, got, c.want)
		}
	}
}

// Every rule of a small table is held against plain models of what the functions tell.
func TestRulesAgainstPlainOnes(t *testing.T) {
	for _, r := range manyRules() {
		if got, want := impl.VarsOf(r), plainVars(r); !slices.Equal(got, want) {
			t.Fatalf("VarsOf(%v) = %v, want %v", r, got, want)
		}
		if got, want := impl.RuleSafe(r), plainSafe(r); got != want {
			t.Fatalf("RuleSafe(%v) = %v", r, got)
		}
		if got, want := impl.RuleOk(rulePlaces, r), plainRuleOk(r); got != want {
			t.Fatalf("RuleOk(%v) = %v", r, got)
		}
		if got, want := impl.Renamed(r), plainRenamed(r); !sameRule(got, want) {
			t.Fatalf("Renamed(%v) = %v, want %v", r, got, want)
		}
		if impl.ProgramOk(program(r)) != impl.RuleOk(rulePlaces, r) {
			t.Fatalf("ProgramOk and RuleOk differ for %v", r)
		}
	}
}

// The second promise: what is told of a rule is the same for all names of its variables.
func TestNamesOfVariablesDoNotMatter(t *testing.T) {
	for _, r := range namedRules() {
		want := impl.Renamed(r)
		vars := impl.VarsOf(r)
		for _, names := range variableNames() {
			s := withNames(r, names)
			if impl.RuleSafe(s) != impl.RuleSafe(r) || impl.RuleOk(rulePlaces, s) != impl.RuleOk(rulePlaces, r) {
				t.Errorf("%v and %v are not told the same", r, s)
			}
			if got := impl.Renamed(s); !sameRule(got, want) {
				t.Errorf("%v is renamed to %v, and %v to %v", r, want, s, got)
			}
			if got := impl.VarsOf(s); !slices.Equal(got, namesOf(vars, names)) {
				t.Errorf("VarsOf(%v) = %v", s, got)
			}
			if !slices.Equal(impl.HeadsOf(program(s)), impl.HeadsOf(program(r))) || impl.Positive(program(s)) != impl.Positive(program(r)) {
				t.Errorf("programs of %v and %v are not told the same", r, s)
			}
		}
		if !sameRule(impl.Renamed(want), want) {
			t.Errorf("Renamed(%v) is renamed once more", r)
		}
		for i, v := range impl.VarsOf(want) {
			if v != i || len(impl.VarsOf(want)) != len(vars) {
				t.Errorf("Renamed(%v) has the variables %v", r, impl.VarsOf(want))
			}
		}
	}
}

func TestRulesNilIsEmpty(t *testing.T) {
	withNil := impl.Rule{Head: impl.Atom{Pred: 0}, Body: []impl.Lit{{Atom: impl.Atom{Pred: 0}}}}
	withEmpty := impl.Rule{Head: atom(0, []int{}...), Body: []impl.Lit{yes(0, []int{}...)}}
	if !impl.RuleOk(rulePlaces, withNil) || !impl.RuleOk(rulePlaces, withEmpty) || !sameRule(impl.Renamed(withNil), impl.Renamed(withEmpty)) {
		t.Error("nil and empty Args differ")
	}
	noBody, emptyBody := impl.Rule{Head: atom(1, 3)}, impl.Rule{Head: atom(1, 3), Body: []impl.Lit{}}
	if !impl.RuleOk(rulePlaces, noBody) || !impl.RuleOk(rulePlaces, emptyBody) || !sameRule(impl.Renamed(noBody), impl.Renamed(emptyBody)) {
		t.Error("nil and empty bodies differ")
	}
	if impl.AtomOk([]int{}, atom(0)) || impl.RuleOk([]int{}, noBody) || !impl.LitOk([]int{}, same(1, 1)) {
		t.Error("nil and empty predicates differ")
	}
}

func TestRuleArgumentsAreNotChanged(t *testing.T) {
	for _, r := range manyRules()[:400] {
		checkRuleArguments(t, r)
	}
	for _, r := range namedRules() {
		checkRuleArguments(t, r)
	}
}

// checkRuleArguments calls all functions of the chapter, and checks that no number of an argument has changed.
func checkRuleArguments(t *testing.T, r impl.Rule) {
	t.Helper()
	p := roomyProgram(program(r, rule(atom(1, 2)), r))
	before := programNumbers(p)
	for _, x := range p.Rules {
		impl.AtomOk(p.Arity, x.Head)
		for _, l := range x.Body {
			impl.LitOk(p.Arity, l)
		}
		impl.VarsOf(x)
		impl.RuleSafe(x)
		impl.RuleOk(p.Arity, x)
		impl.Renamed(x)
	}
	impl.ProgramOk(p)
	impl.Positive(p)
	impl.HeadsOf(p)
	impl.RulesOf(p, r.Head.Pred)
	if !slices.Equal(programNumbers(p), before) {
		t.Fatalf("the program of %v is changed", r)
	}
}

func TestRenamedSharesNothing(t *testing.T) {
	for _, r := range namedRules() {
		x := roomyRule(r)
		first, second := impl.Renamed(x), impl.Renamed(x)
		want := copyRule(first)
		scribbleRule(first)
		if !sameRule(x, r) || !slices.Equal(ruleNumbers(x), ruleNumbers(roomyRule(r))) {
			t.Errorf("writing to Renamed(%v) changes the rule", r)
		}
		if !sameRule(second, want) {
			t.Errorf("writing to Renamed(%v) changes another result", r)
		}
		scribbleRule(x)
		if !sameRule(second, want) {
			t.Errorf("writing to %v changes what it was renamed to", r)
		}
		checkAtomsApart(t, r)
	}
}

// checkAtomsApart checks that the atoms of what a rule is renamed to share no memory.
func checkAtomsApart(t *testing.T, r impl.Rule) {
	t.Helper()
	for i := range len(r.Body) + 1 {
		got := impl.Renamed(r)
		want := copyRule(got)
		args := ruleArgs(got)
		fill(args[i][:cap(args[i])])
		for j, other := range ruleArgs(want) {
			if j != i && !slices.Equal(args[j], other) {
				t.Errorf("the atoms %d and %d of Renamed(%v) share memory", i, j, r)
			}
		}
	}
}

func TestNumberListsShareNothing(t *testing.T) {
	p := roomyProgram(program(slices.Repeat(namedRules(), 2)...))
	before := programNumbers(p)
	calls := map[string]func() []int{
		"VarsOf":  func() []int { return impl.VarsOf(p.Rules[0]) },
		"HeadsOf": func() []int { return impl.HeadsOf(p) },
		"RulesOf": func() []int { return impl.RulesOf(p, 2) },
	}
	for name, call := range calls {
		first, second := call(), call()
		if len(first) == 0 {
			t.Errorf("%s returns nothing here", name)
		}
		want := slices.Clone(first)
		fill(first[:cap(first)])
		if !slices.Equal(second, want) || !slices.Equal(call(), want) {
			t.Errorf("writing to what %s returns changes another result", name)
		}
		if !slices.Equal(programNumbers(p), before) {
			t.Errorf("writing to what %s returns changes the program", name)
		}
	}
}

func atom(pred int, args ...int) impl.Atom {
	return impl.Atom{Pred: pred, Args: args}
}

func yes(pred int, args ...int) impl.Lit {
	return impl.Lit{Kind: impl.LitYes, Atom: atom(pred, args...)}
}

func no(pred int, args ...int) impl.Lit {
	return impl.Lit{Kind: impl.LitNo, Atom: atom(pred, args...)}
}

func same(args ...int) impl.Lit {
	return impl.Lit{Kind: impl.LitSame, Atom: atom(0, args...)}
}

func less(args ...int) impl.Lit {
	return impl.Lit{Kind: impl.LitLess, Atom: atom(0, args...)}
}

func rule(head impl.Atom, body ...impl.Lit) impl.Rule {
	return impl.Rule{Head: head, Body: body}
}

// program returns a program of rulePlaces with rules.
func program(rules ...impl.Rule) impl.Program {
	return impl.Program{Arity: rulePlaces, Rules: rules}
}

func denies(p impl.Program) bool {
	for _, r := range p.Rules {
		for _, l := range r.Body {
			if l.Kind == impl.LitNo {
				return true
			}
		}
	}
	return false
}

// manyRules returns rules of all heads and bodies of a table, ones that are none among them.
func manyRules() []impl.Rule {
	heads := []impl.Atom{
		atom(0), atom(1, varW), atom(1, 5), atom(1, 6), atom(1, -5), atom(2, varX, varZ), atom(2, varY, varY), atom(2, 0), atom(3, varW), atom(0, varZ),
	}
	lits := []impl.Lit{
		yes(0), yes(1, varW), yes(1, varZ), yes(2, varX, varW), yes(2, varZ, varY), yes(2, varX, 6), yes(1, varY, varX), yes(-1, varX),
		no(1, varX), no(2, 4, varY), no(1, -5), no(2, varX),
		same(varX, varW), same(varY, 3), same(6, varY), same(varW),
		less(varZ, varX), less(0, varW), less(varY, -5), {Kind: impl.LitLess, Atom: atom(2, varW, varX)},
		{Kind: 4, Atom: atom(1, varW)}, {Kind: -1, Atom: atom(2, varX, varZ)},
	}
	var rules []impl.Rule
	for _, h := range heads {
		rules = append(rules, rule(h))
		for _, a := range lits {
			rules = append(rules, rule(h, a))
			for _, b := range lits {
				rules = append(rules, rule(h, a, b), rule(h, a, b, yes(2, varW, varX)), rule(h, yes(2, varZ, varY), a, yes(2, varX, varW), b))
				rules = append(rules, rule(h, a, b, yes(0), yes(0), yes(0)))
			}
		}
	}
	return rules
}

// namedRules returns rules of terms alone, whose variables come in several orders.
func namedRules() []impl.Rule {
	return []impl.Rule{
		rule(atom(2, varZ, varX), yes(2, varX, varZ), yes(2, varY, varW)),
		rule(atom(2, varY, 3), no(1, varW), yes(2, varW, varY)),
		rule(atom(0), yes(2, varW, varX), yes(2, varX, varY), yes(2, varY, varZ), less(varW, varZ)),
		rule(atom(0), same(varZ, varX), yes(2, varX, varX), yes(1, varZ)),
		rule(atom(1, varX)),
		rule(atom(1, varX), no(1, varX), same(varX, varZ)),
		rule(atom(2, 1, 2), yes(0)),
		rule(atom(9, varY, varX, varW), impl.Lit{Kind: 8, Atom: atom(7, varZ)}),
	}
}

// variableNames returns all orders of the four variables.
func variableNames() [][]int {
	var all [][]int
	for a := range 4 {
		for b := range 4 {
			for c := range 4 {
				if a != b && a != c && b != c {
					all = append(all, []int{a, b, c, 6 - a - b - c})
				}
			}
		}
	}
	return all
}

// withNames returns a rule of terms in which each variable has another name.
func withNames(r impl.Rule, names []int) impl.Rule {
	out := copyRule(r)
	for _, args := range ruleArgs(out) {
		for i, term := range args {
			if term < 0 {
				args[i] = -1 - names[-1-term]
			}
		}
	}
	return out
}

func namesOf(vars []int, names []int) []int {
	var out []int
	for _, v := range vars {
		out = append(out, names[v])
	}
	slices.Sort(out)
	return out
}

func plainVars(r impl.Rule) []int {
	var out []int
	for v := range impl.MaxVars {
		for _, args := range ruleArgs(r) {
			if slices.Contains(args, -1-v) {
				out = append(out, v)
				break
			}
		}
	}
	return out
}

func plainSafe(r impl.Rule) bool {
	for _, v := range plainVars(r) {
		found := false
		for _, l := range r.Body {
			found = found || l.Kind == impl.LitYes && slices.Contains(l.Atom.Args, -1-v)
		}
		if !found {
			return false
		}
	}
	return true
}

// plainRuleOk is for rules of rulePlaces, in which a predicate's number is that of its places.
func plainRuleOk(r impl.Rule) bool {
	ok := len(r.Body) <= impl.MaxBody && plainSafe(r) && !hasNoTerm(r) && plainAtomOk(r.Head)
	for _, l := range r.Body {
		switch l.Kind {
		case impl.LitYes, impl.LitNo:
			ok = ok && plainAtomOk(l.Atom)
		case impl.LitSame, impl.LitLess:
			ok = ok && l.Atom.Pred == 0 && len(l.Atom.Args) == 2
		default:
			ok = false
		}
	}
	return ok
}

func plainAtomOk(a impl.Atom) bool {
	return a.Pred == len(a.Args) && a.Pred <= 2
}

func hasNoTerm(r impl.Rule) bool {
	for _, args := range ruleArgs(r) {
		for _, term := range args {
			if term < -4 || term > 5 {
				return true
			}
		}
	}
	return false
}

func plainRenamed(r impl.Rule) impl.Rule {
	if hasNoTerm(r) {
		return impl.Rule{}
	}
	names := map[int]int{}
	out := copyRule(r)
	for _, args := range ruleArgs(out) {
		for i, term := range args {
			if term >= 0 {
				continue
			}
			if _, there := names[term]; !there {
				names[term] = -1 - len(names)
			}
			args[i] = names[term]
		}
	}
	return out
}

// ruleArgs returns the Args of a rule, first of the head, and then of the literals.
func ruleArgs(r impl.Rule) [][]int {
	all := [][]int{r.Head.Args}
	for _, l := range r.Body {
		all = append(all, l.Atom.Args)
	}
	return all
}

func sameAtom(a, b impl.Atom) bool {
	return a.Pred == b.Pred && slices.Equal(a.Args, b.Args)
}

func sameLit(a, b impl.Lit) bool {
	return a.Kind == b.Kind && sameAtom(a.Atom, b.Atom)
}

func sameRule(a, b impl.Rule) bool {
	return sameAtom(a.Head, b.Head) && slices.EqualFunc(a.Body, b.Body, sameLit)
}

func copyAtom(a impl.Atom) impl.Atom {
	return atom(a.Pred, slices.Clone(a.Args)...)
}

func copyRule(r impl.Rule) impl.Rule {
	out := rule(copyAtom(r.Head))
	for _, l := range r.Body {
		out.Body = append(out.Body, impl.Lit{Kind: l.Kind, Atom: copyAtom(l.Atom)})
	}
	return out
}

// roomyNumbers returns numbers with zeros behind them as unused capacity.
func roomyNumbers(list []int) []int {
	return append(make([]int, 0, len(list)+3), list...)
}

func roomyAtom(a impl.Atom) impl.Atom {
	return atom(a.Pred, roomyNumbers(a.Args)...)
}

func roomyRule(r impl.Rule) impl.Rule {
	body := make([]impl.Lit, 0, len(r.Body)+3)
	for _, l := range r.Body {
		body = append(body, impl.Lit{Kind: l.Kind, Atom: roomyAtom(l.Atom)})
	}
	return impl.Rule{Head: roomyAtom(r.Head), Body: body}
}

func roomyProgram(p impl.Program) impl.Program {
	rules := make([]impl.Rule, 0, len(p.Rules)+3)
	for _, r := range p.Rules {
		rules = append(rules, roomyRule(r))
	}
	return impl.Program{Arity: roomyNumbers(p.Arity), Rules: rules}
}

// ruleNumbers returns all numbers of a rule, those of unused capacity among them.
func ruleNumbers(r impl.Rule) []int {
	out := slices.Concat([]int{r.Head.Pred, len(r.Body)}, r.Head.Args[:cap(r.Head.Args)])
	for _, l := range r.Body[:cap(r.Body)] {
		out = append(out, l.Kind, l.Atom.Pred, len(l.Atom.Args))
		out = append(out, l.Atom.Args[:cap(l.Atom.Args)]...)
	}
	return out
}

func programNumbers(p impl.Program) []int {
	out := slices.Concat([]int{len(p.Arity), len(p.Rules)}, p.Arity[:cap(p.Arity)])
	for _, r := range p.Rules[:cap(p.Rules)] {
		out = append(out, ruleNumbers(r)...)
	}
	return out
}

// scribbleRule overwrites a rule, and all unused capacity.
func scribbleRule(r impl.Rule) {
	fill(r.Head.Args[:cap(r.Head.Args)])
	body := r.Body[:cap(r.Body)]
	for i := range body {
		fill(body[i].Atom.Args[:cap(body[i].Atom.Args)])
		body[i] = impl.Lit{Kind: -77, Atom: atom(-77, -77)}
	}
}
