package tests

import (
	"math"
	"slices"
	"testing"

	"loop.example/wholerules/impl"
)

func opScan(pred int, args ...int) impl.Op {
	return impl.Op{Kind: impl.OpScan, Atom: atom(pred, args...)}
}

func opLook(pred int, args ...int) impl.Op {
	return impl.Op{Kind: impl.OpLook, Atom: atom(pred, args...)}
}

func opDeny(pred int, args ...int) impl.Op {
	return impl.Op{Kind: impl.OpDeny, Atom: atom(pred, args...)}
}

func opSame(args ...int) impl.Op {
	return impl.Op{Kind: impl.OpSame, Atom: atom(0, args...)}
}

func opLess(args ...int) impl.Op {
	return impl.Op{Kind: impl.OpLess, Atom: atom(0, args...)}
}

func opYield(pred int, args ...int) impl.Op {
	return impl.Op{Kind: impl.OpYield, Atom: atom(pred, args...)}
}

func planWith(ops ...impl.Op) []impl.Op {
	return ops
}

func TestPlanOk(t *testing.T) {
	full := planWith(opScan(2, varW, varX), opLook(4, varX, varW), opDeny(1, varX), opLess(varW, 5), opYield(3, varW))
	cases := []struct {
		name string
		plan []impl.Op
		want bool
	}{
		{"nothing", nil, false},
		{"a fact told", planWith(opYield(2, 0, 5)), true},
		{"a fact told, no places", planWith(opYield(0)), true},
		{"a variable told that has nothing", planWith(opYield(1, varW)), false},
		{"scan and yield", planWith(opScan(2, varW, varX), opYield(2, varX, varW)), true},
		{"another variable told", planWith(opScan(1, varW), opYield(1, varX)), false},
		{"no yield", planWith(opScan(1, varW)), false},
		{"no yield at the end", planWith(opYield(0), opLook(0)), false},
		{"two yields", planWith(opYield(0), opYield(0)), false},
		{"a yield ahead of the last one", planWith(opScan(1, varW), opYield(1, varW), opYield(1, varW)), false},
		{"each kind", full, true},
		{"an operation too many", append(planWith(opLook(0)), full...), false},
		{"no operation too many", append(planWith(opLook(0)), full[:3:3]...), false},
		{"scan where all is known", planWith(opScan(1, varW), opScan(3, varW), opYield(0)), false},
		{"scan where all is known but one", planWith(opScan(1, varW), opScan(2, varW, varX), opYield(0)), true},
		{"scan where all is known but the first one", planWith(opScan(1, varX), opScan(2, varW, varX), opYield(3, varW)), true},
		{"scan of a variable twice", planWith(opScan(4, varZ, varZ), opYield(1, varZ)), true},
		{"scan of a constant and a variable", planWith(opScan(4, 3, varY), opYield(1, varY)), true},
		{"scan of a constant alone", planWith(opScan(1, 3), opYield(0)), false},
		{"scan of two constants", planWith(opScan(2, 3, 4), opYield(0)), false},
		{"scan without places", planWith(opScan(0), opYield(0)), false},
		{"scan again", planWith(opScan(2, varW, varX), opScan(2, varW, varX), opYield(0)), false},
		{"look without places", planWith(opLook(0), opYield(0)), true},
		{"look of constants", planWith(opLook(2, 3, 4), opYield(1, 5)), true},
		{"look of a variable that has nothing", planWith(opLook(1, varW), opYield(0)), false},
		{"look of a second variable that has nothing", planWith(opScan(1, varW), opLook(2, varW, varX), opYield(0)), false},
		{"look gives nothing", planWith(opLook(1, varW), opYield(1, varW)), false},
		{"look of one that comes later", planWith(opLook(1, varW), opScan(2, varW, varX), opYield(0)), false},
		{"deny without places", planWith(opDeny(0), opYield(0)), true},
		{"deny of constants", planWith(opDeny(1, 5), opYield(0)), true},
		{"deny of a variable that has nothing", planWith(opDeny(1, varX), opYield(0)), false},
		{"deny of one that comes later", planWith(opDeny(1, varX), opScan(1, varX), opYield(0)), false},
		{"deny gives nothing", planWith(opDeny(1, varX), opYield(1, varX)), false},
		{"same of constants", planWith(opSame(1, 2), opYield(0)), true},
		{"same of a variable that has nothing", planWith(opSame(varX, 2), opYield(0)), false},
		{"same gives nothing", planWith(opScan(1, varX), opSame(varY, varX), opYield(1, varY)), false},
		{"same of two", planWith(opScan(2, varX, varY), opSame(varY, varX), opYield(1, varY)), true},
		{"same of a predicate", planWith(opScan(2, varX, varY), impl.Op{Kind: impl.OpSame, Atom: atom(2, varX, varY)}, opYield(0)), false},
		{"same of one term", planWith(opSame(1), opYield(0)), false},
		{"same of three terms", planWith(opSame(1, 1, 1), opYield(0)), false},
		{"same of no terms", planWith(opSame(), opYield(0)), false},
		{"same of what is no term", planWith(opSame(6, 6), opYield(0)), false},
		{"less of constants", planWith(opLess(2, 1), opYield(0)), true},
		{"less of a variable that has nothing", planWith(opLess(2, varZ), opYield(0)), false},
		{"less of one that comes later", planWith(opLess(2, varZ), opScan(1, varZ), opYield(0)), false},
		{"less below 0", planWith(impl.Op{Kind: impl.OpLess, Atom: atom(-1, 1, 2)}, opYield(0)), false},
		{"less of one term", planWith(opLess(1), opYield(0)), false},
		{"less of what is no term", planWith(opLess(1, -5), opYield(0)), false},
		{"a kind below 0", planWith(impl.Op{Kind: -1, Atom: atom(0)}, opYield(0)), false},
		{"a kind past the end", planWith(impl.Op{Kind: 6, Atom: atom(0)}, opYield(0)), false},
		{"the last kind is past the end", planWith(impl.Op{Kind: 6, Atom: atom(0)}), false},
		{"the greatest kind", planWith(impl.Op{Kind: math.MaxInt, Atom: atom(0)}, opYield(0)), false},
	}
	for _, c := range cases {
		if got := impl.PlanOk(growPlaces, c.plan); got != c.want {
			t.Errorf("%s: PlanOk(%v) = %v", c.name, c.plan, got)
		}
		if got := plainPlanOk(growPlaces, c.plan); got != c.want {
			t.Errorf("%s: the plain model tells %v", c.name, got)
		}
		checkRunOfPlan(t, growPlaces, growLists()[2], c.plan)
	}
}

// A plan's atoms are ones of the predicates, whichever operation has them.
func TestPlanOkOfAtomsThatAreNone(t *testing.T) {
	none := []impl.Atom{atom(5), atom(-1), atom(math.MaxInt, varX), atom(0, varX), atom(1), atom(1, varX, varX), atom(2, varX), atom(1, 6), atom(2, varX, -5), atom(2, varX, math.MinInt)}
	for _, a := range none {
		for kind := range 6 {
			op := impl.Op{Kind: kind, Atom: a}
			for _, plan := range [][]impl.Op{{op, opYield(0)}, {opScan(1, varX), op, opYield(0)}, {op}, {opScan(1, varX), op}, {op, opYield(1, varX)}} {
				checkNoPlan(t, "an atom that is none", growPlaces, chainOf(2, 2), plan)
			}
		}
	}
	good := planWith(opScan(1, varX), opYield(0))
	for _, arity := range [][]int{nil, {}, {0}, {0, 2}, {0, 1, 3}, {0, 1, -1}, append(slices.Clone(growPlaces), make([]int, 20)...)} {
		checkNoPlan(t, "other predicates", arity, nil, good)
		checkNoPlan(t, "other predicates", arity, []impl.Fact{fact(1, 2)}, good)
	}
}

func checkNoPlan(t *testing.T, name string, arity []int, list []impl.Fact, plan []impl.Op) {
	t.Helper()
	if impl.PlanOk(arity, plan) {
		t.Errorf("%s: PlanOk(%v, %v)", name, arity, plan)
	}
	checkNoRun(t, name, arity, list, plan)
}

func checkNoRun(t *testing.T, name string, arity []int, list []impl.Fact, plan []impl.Op) {
	t.Helper()
	if got := impl.PlanRun(arity, list, plan); len(got) != 0 {
		t.Errorf("%s: PlanRun(%v, %v, %v) = %v", name, arity, list, plan, got)
	}
	if got := impl.PlanSteps(arity, list, plan); got != -1 {
		t.Errorf("%s: PlanSteps(%v, %v, %v) = %d", name, arity, list, plan, got)
	}
}

// planCase is a rule of growPlaces with its plan, and the order of this.
type planCase struct {
	name  string
	rule  impl.Rule
	order []int
	want  []impl.Op
}

func planCases() []planCase {
	return []planCase{
		{"of the document", rule(atom(1, varW), yes(2, varW, varX), yes(3, varX)), []int{0, 1}, planWith(opScan(2, varW, varX), opLook(3, varX), opYield(1, varW))},
		{"no body", rule(atom(2, 4, 0)), nil, planWith(opYield(2, 4, 0))},
		{"no body, no places", rule(atom(0)), nil, planWith(opYield(0))},
		{"a fact", rule(atom(0), yes(1, 4)), []int{0}, planWith(opLook(1, 4), opYield(0))},
		{"an atom without places", rule(atom(3, 2), yes(0)), []int{0}, planWith(opLook(0), opYield(3, 2))},
		{"an atom without places comes first", rule(atom(3, varW), yes(1, varW), yes(0)), []int{1, 0}, planWith(opLook(0), opScan(1, varW), opYield(3, varW))},
		{"a denied one without places comes first", rule(atom(3, varW), yes(1, varW), no(0)), []int{1, 0}, planWith(opDeny(0), opScan(1, varW), opYield(3, varW))},
		{"constants come first, in order", rule(atom(3, varW), yes(1, varW), less(1, 2), no(2, 3, 3), same(4, 4)), []int{1, 2, 3, 0},
			planWith(opLess(1, 2), opDeny(2, 3, 3), opSame(4, 4), opScan(1, varW), opYield(3, varW))},
		{"denied ahead", rule(atom(3, varW), no(3, varW), yes(1, varW)), []int{1, 0}, planWith(opScan(1, varW), opDeny(3, varW), opYield(3, varW))},
		{"compared ahead", rule(atom(0), same(varW, varX), less(varX, 3), yes(2, varX, varW)), []int{2, 0, 1}, planWith(opScan(2, varX, varW), opSame(varW, varX), opLess(varX, 3), opYield(0))},
		{"as soon as they can", rule(atom(0), yes(1, varW), yes(1, varX), less(varW, 3), no(2, varW, varX)), []int{0, 2, 1, 3},
			planWith(opScan(1, varW), opLess(varW, 3), opScan(1, varX), opDeny(2, varW, varX), opYield(0))},
		{"a look as soon as it can", rule(atom(0), yes(1, varW), yes(2, varW, varX), yes(3, varW)), []int{0, 2, 1}, planWith(opScan(1, varW), opLook(3, varW), opScan(2, varW, varX), opYield(0))},
		{"the first atom, not the one that knows most", rule(atom(0), yes(2, varW, varX), yes(2, varY, varZ), yes(2, varX, varY)), []int{0, 1, 2},
			planWith(opScan(2, varW, varX), opScan(2, varY, varZ), opLook(2, varX, varY), opYield(0))},
		{"an atom twice", rule(atom(3, varW), yes(1, varW), yes(1, varW)), []int{0, 1}, planWith(opScan(1, varW), opLook(1, varW), opYield(3, varW))},
		{"a variable twice", rule(atom(4, varZ, varZ), yes(2, varZ, varZ)), []int{0}, planWith(opScan(2, varZ, varZ), opYield(4, varZ, varZ))},
		{"what is known ahead of what is first", rule(atom(0), no(1, varY), yes(2, varX, varX), yes(4, varX, varY), yes(1, varX)), []int{1, 3, 2, 0},
			planWith(opScan(2, varX, varX), opLook(1, varX), opScan(4, varX, varY), opDeny(1, varY), opYield(0))},
	}
}

func TestPlanOf(t *testing.T) {
	for _, c := range planCases() {
		if got := impl.PlanOf(growPlaces, c.rule); !samePlan(got, c.want) {
			t.Errorf("%s: PlanOf(%v) = %v, want %v", c.name, c.rule, got, c.want)
		}
		if got, ok := impl.PlanBy(growPlaces, c.rule, c.order); !ok || !samePlan(got, c.want) {
			t.Errorf("%s: PlanBy(%v, %v) = %v, %v, want %v", c.name, c.rule, c.order, got, ok, c.want)
		}
		if !impl.PlanOk(growPlaces, c.want) || !slices.ContainsFunc(impl.PlanOrders(growPlaces, c.rule), func(order []int) bool { return slices.Equal(order, c.order) }) {
			t.Errorf("%s: %v is no plan, or %v no order", c.name, c.want, c.order)
		}
	}
}

func TestPlanBy(t *testing.T) {
	r := rule(atom(3, varW), yes(2, varW, varX), no(1, varX), yes(1, varW), less(varW, 4))
	cases := []struct {
		order []int
		want  []impl.Op
	}{
		{[]int{0, 1, 2, 3}, planWith(opScan(2, varW, varX), opDeny(1, varX), opLook(1, varW), opLess(varW, 4), opYield(3, varW))},
		{[]int{3, 0, 1, 2}, nil},
		{[]int{1, 0, 2, 3}, nil},
		{[]int{2, 0, 1, 3}, planWith(opScan(1, varW), opScan(2, varW, varX), opDeny(1, varX), opLess(varW, 4), opYield(3, varW))},
		{[]int{2, 1, 0, 3}, nil},
		{[]int{2, 3, 0, 1}, planWith(opScan(1, varW), opLess(varW, 4), opScan(2, varW, varX), opDeny(1, varX), opYield(3, varW))},
		{[]int{2, 3, 1, 0}, nil},
		{[]int{0, 3, 2, 1}, planWith(opScan(2, varW, varX), opLess(varW, 4), opLook(1, varW), opDeny(1, varX), opYield(3, varW))},
		{nil, nil},
		{[]int{0, 1, 2}, nil},
		{[]int{0, 1, 2, 3, 0}, nil},
		{[]int{0, 1, 2, 3, 4}, nil},
		{[]int{0, 1, 2, 2}, nil},
		{[]int{0, 0, 2, 3}, nil},
		{[]int{0, 1, 2, 4}, nil},
		{[]int{0, 1, 2, -1}, nil},
		{[]int{-1, 0, 1, 2}, nil},
		{[]int{0, math.MaxInt, 2, 3}, nil},
		{[]int{0, 1, math.MinInt, 3}, nil},
	}
	for _, c := range cases {
		if got, ok := impl.PlanBy(growPlaces, r, c.order); ok != (c.want != nil) || !samePlan(got, c.want) {
			t.Errorf("PlanBy(.., %v) = %v, %v, want %v", c.order, got, ok, c.want)
		}
	}
	for _, order := range [][]int{{0}, {0, 0}, {-1}} {
		if got, ok := impl.PlanBy(growPlaces, rule(atom(0)), order); ok || len(got) != 0 {
			t.Errorf("without a body: PlanBy(.., %v) = %v, %v", order, got, ok)
		}
	}
}

func TestPlanOrders(t *testing.T) {
	cases := []struct {
		name string
		rule impl.Rule
		want [][]int
	}{
		{"no body", rule(atom(1, 3)), [][]int{nil}},
		{"an atom", rule(atom(1, varW), yes(1, varW)), [][]int{{0}}},
		{"two atoms", rule(atom(1, varW), yes(2, varW, varX), yes(3, varX)), [][]int{{0, 1}, {1, 0}}},
		{"three atoms", rule(atom(0), yes(0), yes(0), yes(1, varX)), [][]int{{0, 1, 2}, {0, 2, 1}, {1, 0, 2}, {1, 2, 0}, {2, 0, 1}, {2, 1, 0}}},
		{"denied ahead", rule(atom(0), no(1, varW), yes(1, varW)), [][]int{{1, 0}}},
		{"denied behind", rule(atom(0), yes(1, varW), no(1, varW)), [][]int{{0, 1}}},
		{"denied without variables", rule(atom(0), no(1, 2), yes(1, varW)), [][]int{{0, 1}, {1, 0}}},
		{"compared", rule(atom(0), same(varW, varX), yes(1, varX), yes(1, varW)), [][]int{{1, 2, 0}, {2, 1, 0}}},
		{"one compared soon", rule(atom(0), less(varX, 3), yes(1, varX), yes(1, varW)), [][]int{{1, 0, 2}, {1, 2, 0}, {2, 1, 0}}},
		{"constants alone", rule(atom(0), less(1, 3), same(1, 2)), [][]int{{0, 1}, {1, 0}}},
		{"four", rule(atom(0), no(2, varW, varX), yes(2, varW, varX), less(varX, 1), no(0)),
			[][]int{{1, 0, 2, 3}, {1, 0, 3, 2}, {1, 2, 0, 3}, {1, 2, 3, 0}, {1, 3, 0, 2}, {1, 3, 2, 0}, {3, 1, 0, 2}, {3, 1, 2, 0}}},
	}
	for _, c := range cases {
		if got := impl.PlanOrders(growPlaces, c.rule); !sameLists(got, c.want) {
			t.Errorf("%s: PlanOrders(%v) = %v, want %v", c.name, c.rule, got, c.want)
		}
	}
	if got := impl.PlanOrders(growPlaces, rule(atom(0), yes(0), yes(0), yes(0), yes(0))); !sameLists(got, everyOrder(4)) || len(got) != 24 {
		t.Errorf("of four atoms there are the orders %v", got)
	}
}

func TestPlanRun(t *testing.T) {
	list := []impl.Fact{fact(0), fact(1, 1), fact(1, 3), fact(2, 0, 1), fact(2, 0, 3), fact(2, 2, 3), fact(2, 3, 3), fact(3, 3), fact(4, 5, 0)}
	cases := []struct {
		name  string
		plan  []impl.Op
		want  []impl.Fact
		steps int
	}{
		{"a fact told", planWith(opYield(4, 1, 2)), []impl.Fact{fact(4, 1, 2)}, 0},
		{"a fact told, no places", planWith(opYield(0)), []impl.Fact{fact(0)}, 0},
		{"a scan", planWith(opScan(1, varW), opYield(3, varW)), []impl.Fact{fact(3, 1), fact(3, 3)}, 2},
		{"in order", planWith(opScan(2, varW, varX), opYield(4, varX, varW)), []impl.Fact{fact(4, 1, 0), fact(4, 3, 0), fact(4, 3, 2), fact(4, 3, 3)}, 4},
		{"each once", planWith(opScan(2, varW, varX), opYield(3, varX)), []impl.Fact{fact(3, 1), fact(3, 3)}, 4},
		{"one fact of all", planWith(opScan(2, varW, varX), opYield(0)), []impl.Fact{fact(0)}, 4},
		{"comes by all, first constant", planWith(opScan(2, 0, varX), opYield(3, varX)), []impl.Fact{fact(3, 1), fact(3, 3)}, 4},
		{"comes by all, second constant", planWith(opScan(2, varX, 1), opYield(3, varX)), []impl.Fact{fact(3, 0)}, 4},
		{"comes by all, a variable twice", planWith(opScan(2, varX, varX), opYield(3, varX)), []impl.Fact{fact(3, 3)}, 4},
		{"comes by all and fits none", planWith(opScan(2, 5, varX), opYield(3, varX)), nil, 4},
		{"of no facts", planWith(opScan(4, varX, 1), opLook(0), opYield(0)), nil, 1},
		{"a look", planWith(opScan(2, varW, varX), opLook(3, varX), opYield(1, varW)), []impl.Fact{fact(1, 0), fact(1, 2), fact(1, 3)}, 8},
		{"a look that comes first", planWith(opLook(1, 2), opScan(2, varW, varX), opYield(1, varW)), nil, 1},
		{"a look of what is there", planWith(opLook(2, 2, 3), opLook(0), opYield(1, 4)), []impl.Fact{fact(1, 4)}, 2},
		{"a denial", planWith(opScan(2, varW, varX), opDeny(3, varX), opYield(1, varW)), []impl.Fact{fact(1, 0)}, 8},
		{"a denial of what is there", planWith(opDeny(0), opLook(0), opYield(0)), nil, 1},
		{"a denial of what is not there", planWith(opDeny(2, 1, 0), opYield(0)), []impl.Fact{fact(0)}, 1},
		{"a denial and a look", planWith(opScan(1, varZ), opDeny(3, varZ), opLook(1, varZ), opYield(1, varZ)), []impl.Fact{fact(1, 1)}, 5},
		{"the same", planWith(opScan(2, varW, varX), opSame(varW, varX), opYield(1, varW)), []impl.Fact{fact(1, 3)}, 4},
		{"less", planWith(opScan(2, varW, varX), opLess(varW, varX), opYield(1, varW)), []impl.Fact{fact(1, 0), fact(1, 2)}, 4},
		{"less than a constant", planWith(opScan(2, varW, varX), opLess(varX, 3), opLook(0), opYield(1, varW)), []impl.Fact{fact(1, 0)}, 5},
		{"less, constants", planWith(opLess(2, 2), opScan(1, varW), opYield(1, varW)), nil, 0},
		{"the same, constants", planWith(opSame(2, 2), opScan(1, varW), opYield(3, varW)), []impl.Fact{fact(3, 1), fact(3, 3)}, 2},
		{"two scans, nothing shared", planWith(opScan(1, varW), opScan(1, varX), opYield(4, varW, varX)), []impl.Fact{fact(4, 1, 1), fact(4, 1, 3), fact(4, 3, 1), fact(4, 3, 3)}, 6},
		{"two scans, the first one known", planWith(opScan(2, varW, varX), opScan(2, varX, varY), opYield(4, varW, varY)), []impl.Fact{fact(4, 0, 3), fact(4, 2, 3), fact(4, 3, 3)}, 20},
		{"two scans, the second one known", planWith(opScan(3, varX), opScan(2, varW, varX), opYield(1, varW)), []impl.Fact{fact(1, 0), fact(1, 2), fact(1, 3)}, 5},
		{"what is told is no fact yet", planWith(opScan(1, varW), opDeny(3, varW), opYield(3, varW)), []impl.Fact{fact(3, 1)}, 4},
	}
	for _, c := range cases {
		if got := impl.PlanRun(growPlaces, list, c.plan); !sameFacts(got, c.want) {
			t.Errorf("%s: PlanRun(%v) = %v, want %v", c.name, c.plan, got, c.want)
		}
		if got := impl.PlanSteps(growPlaces, list, c.plan); got != c.steps {
			t.Errorf("%s: PlanSteps(%v) = %d, want %d", c.name, c.plan, got, c.steps)
		}
		checkRunOfPlan(t, growPlaces, list, c.plan)
		checkRunOfPlan(t, growPlaces, nil, c.plan)
	}
}

func TestPlanBest(t *testing.T) {
	two := rule(atom(1, varW), yes(2, varW, varX), yes(3, varX))
	three := rule(atom(0), yes(2, varW, varX), yes(1, varX), no(3, varX))
	cases := []struct {
		name string
		list []impl.Fact
		rule impl.Rule
		want []int
	}{
		{"of the document", []impl.Fact{fact(2, 0, 1), fact(2, 2, 3), fact(3, 3)}, two, []int{1, 0}},
		{"no facts", nil, two, []int{0, 1}},
		{"no facts, denied ahead", nil, rule(atom(0), no(1, varW), yes(3, varW), yes(1, varX)), []int{1, 0, 2}},
		{"a few of the first", []impl.Fact{fact(2, 0, 1), fact(3, 1), fact(3, 3)}, two, []int{0, 1}},
		{"as many", []impl.Fact{fact(2, 0, 1), fact(3, 1)}, two, []int{0, 1}},
		{"none of the second", []impl.Fact{fact(2, 0, 1)}, two, []int{1, 0}},
		{"no body", chainOf(2, 3), rule(atom(1, 2)), nil},
		{"one literal", chainOf(2, 3), rule(atom(1, varW), yes(2, varW, varX)), []int{0}},
		{"a denial ahead of a look", []impl.Fact{fact(1, 4), fact(2, 0, 4), fact(2, 1, 4), fact(3, 4)}, three, []int{1, 2, 0}},
		{"a denial that denies nothing", []impl.Fact{fact(1, 5), fact(2, 0, 4)}, three, []int{0, 1, 2}},
		{"comparisons cost nothing", chainOf(2, 4), rule(atom(0), yes(2, varW, varX), yes(2, varX, varY), less(3, varW)), []int{0, 2, 1}},
		{"the first of as many", chainOf(2, 4), rule(atom(0), less(1, 2), yes(2, varW, varX), same(3, 3)), []int{0, 1, 2}},
		{"what denies all comes first", chainOf(2, 4), rule(atom(0), yes(2, varW, varX), same(2, 3)), []int{1, 0}},
		{"what is not there comes first", chainOf(2, 4), rule(atom(0), yes(2, varW, varX), yes(0)), []int{1, 0}},
	}
	for _, c := range cases {
		if got := impl.PlanBest(growPlaces, c.list, c.rule); !slices.Equal(got, c.want) {
			t.Errorf("%s: PlanBest(%v) = %v, want %v", c.name, c.rule, got, c.want)
		}
	}
}

func TestPlansOfWhatIsNone(t *testing.T) {
	for name, p := range noPrograms() {
		if len(p.Rules) > impl.MaxRules {
			continue // there are too many, but each of them is a rule
		}
		r := p.Rules[len(p.Rules)-1]
		for _, list := range [][]impl.Fact{nil, {fact(1, 2)}} {
			if got := impl.PlanBest(p.Arity, list, r); len(got) != 0 {
				t.Errorf("%s: PlanBest = %v", name, got)
			}
		}
		if got := impl.PlanOf(p.Arity, r); len(got) != 0 {
			t.Errorf("%s: PlanOf = %v", name, got)
		}
		if got := impl.PlanOrders(p.Arity, r); len(got) != 0 {
			t.Errorf("%s: PlanOrders = %v", name, got)
		}
		for _, order := range append(everyOrder(len(r.Body)), nil) {
			if got, ok := impl.PlanBy(p.Arity, r, order); ok || len(got) != 0 {
				t.Errorf("%s: PlanBy(.., %v) = %v, %v", name, order, got, ok)
			}
		}
	}
	r := rule(atom(3, varW), yes(1, varW), yes(2, varW, varX))
	for name, list := range noLists() {
		for _, plan := range [][]impl.Op{impl.PlanOf(growPlaces, r), {opYield(0)}, {opLook(1, 2), opYield(0)}, nil, {opScan(1, varW)}} {
			checkNoRun(t, name, growPlaces, list, plan)
		}
		for _, asked := range []impl.Rule{r, rule(atom(0)), rule(atom(0), yes(1, 2))} {
			if got := impl.PlanBest(growPlaces, list, asked); len(got) != 0 {
				t.Errorf("%s: PlanBest = %v", name, got)
			}
		}
	}
	checkNoRun(t, "facts of no predicates", nil, []impl.Fact{{}}, planWith(opYield(0)))
	checkNoPlan(t, "no predicates", nil, nil, planWith(opYield(0)))
}

// All short lists of operations are held against a plain model of what a plan is, and what it tells.
func TestPlansOfEveryShortList(t *testing.T) {
	ops := planWith(
		opScan(1, varW), opScan(2, varW, varX), opScan(2, varX, 3), opScan(2, varX, varX), opScan(1, 3), opScan(0),
		opLook(0), opLook(1, varW), opLook(2, varX, varW), opDeny(3, varX), opDeny(2, 3, 3), opSame(varW, varX), opSame(3, 3), opLess(varX, varW), opLess(1, 2),
		opYield(0), opYield(3, varX), opYield(4, varX, varW), opYield(1, 2), impl.Op{Kind: 6, Atom: atom(0)}, opLook(5))
	list := []impl.Fact{fact(0), fact(1, 1), fact(1, 3), fact(2, 1, 3), fact(2, 3, 1), fact(2, 3, 3), fact(2, 5, 3), fact(3, 3)}
	plans := 0
	for many := range 4 {
		for n := range power(len(ops), many) {
			var plan []impl.Op
			for _, i := range digits(n, len(ops), many) {
				plan = append(plan, ops[i])
			}
			if checkRunOfPlan(t, growPlaces, list, plan) {
				plans++
			}
		}
	}
	next := numbersFrom(10)
	for range 20000 {
		plan := planWith(ops[next(4)])
		for range 1 + next(4) {
			plan = append(plan, ops[next(len(ops))])
		}
		if checkRunOfPlan(t, growPlaces, list, append(plan, ops[15+next(4)])) {
			plans++
		}
	}
	if plans < 1000 {
		t.Errorf("%d plans", plans)
	}
}

// checkRunOfPlan checks what is told of operations, and returns whether they are a plan.
func checkRunOfPlan(t *testing.T, arity []int, list []impl.Fact, plan []impl.Op) bool {
	t.Helper()
	if !plainPlanOk(arity, plan) {
		checkNoPlan(t, "no plan", arity, list, plan)
		return false
	}
	if !impl.PlanOk(arity, plan) {
		t.Fatalf("not PlanOk(%v, %v)", arity, plan)
	}
	want, steps := plainPlanRun(list, plan)
	if got := impl.PlanRun(arity, list, plan); !sameFacts(got, want) || !ascending(got) {
		t.Fatalf("PlanRun(%v, %v, %v) = %v, want %v", arity, list, plan, got, want)
	}
	if got := impl.PlanSteps(arity, list, plan); got != steps {
		t.Fatalf("PlanSteps(%v, %v, %v) = %d, want %d", arity, list, plan, got, steps)
	}
	return true
}

// The tenth promise, for the rules of a table, and for rules of all kinds of literals: each order that makes a plan tells the
// rule's consequences, the orders are just those in which no literal comes too soon, and none looks at fewer facts than the best.
func TestEachOrderTellsTheSame(t *testing.T) {
	lists := append(growLists(), nil, slices.Concat([]impl.Fact{fact(0)}, impl.AllFacts(1, 1), impl.AllFacts(2, 2), impl.AllFacts(3, 1)[2:4]))
	for _, r := range modelRules() {
		checkOrders(t, r, lists)
	}
	next := numbersFrom(11)
	first, later, orders := 0, 0, 0
	for range 1500 {
		r := drawnRule(next)
		best := checkOrders(t, r, lists[:3])
		for _, order := range best {
			if slices.Equal(order, impl.PlanOrders(growPlaces, r)[0]) {
				first++
			} else {
				later++
			}
		}
		orders += len(impl.PlanOrders(growPlaces, r))
	}
	if first < 500 || later < 500 || orders < 5000 {
		t.Errorf("of %d orders, the first one is the best one %d times, and another one %d times", orders, first, later)
	}
}

// checkOrders checks all orders of a rule's literals, and returns the best ones for lists of facts.
func checkOrders(t *testing.T, r impl.Rule, lists [][]impl.Fact) [][]int {
	t.Helper()
	var orders [][]int
	for _, order := range everyOrder(len(r.Body)) {
		want, ok := plainPlanBy(r, order)
		if got, gotOk := impl.PlanBy(growPlaces, r, order); gotOk != ok || !samePlan(got, want) {
			t.Fatalf("PlanBy(%v, %v) = %v, %v, want %v", r, order, got, gotOk, want)
		}
		if ok {
			orders = append(orders, order)
		}
	}
	if got := impl.PlanOrders(growPlaces, r); !sameLists(got, orders) {
		t.Fatalf("PlanOrders(%v) = %v, want %v", r, got, orders)
	}
	want, _ := plainPlanBy(r, plainSoonest(r))
	if got := impl.PlanOf(growPlaces, r); !samePlan(got, want) {
		t.Fatalf("PlanOf(%v) = %v, want %v", r, got, want)
	}
	var best [][]int
	for _, list := range lists {
		best = append(best, checkBest(t, r, list, orders))
	}
	return best
}

// checkBest checks what all orders of a rule tell of facts, and returns the best one.
func checkBest(t *testing.T, r impl.Rule, list []impl.Fact, orders [][]int) []int {
	t.Helper()
	p := growing(r)
	want := plainConsequences(p, list)
	if got := impl.Consequences(p, list); !sameFacts(got, want) {
		t.Fatalf("Consequences(%v, %v) = %v, want %v", r, list, got, want)
	}
	var best []int
	fewest := math.MaxInt
	for _, order := range orders {
		plan, _ := impl.PlanBy(growPlaces, r, order)
		if got := impl.PlanRun(growPlaces, list, plan); !sameFacts(got, want) {
			t.Fatalf("PlanRun of %v in the order %v of %v = %v, want %v", r, order, list, got, want)
		}
		_, steps := plainPlanRun(list, plan)
		if got := impl.PlanSteps(growPlaces, list, plan); got != steps || !impl.PlanOk(growPlaces, plan) {
			t.Fatalf("PlanSteps of %v in the order %v of %v = %d, want %d", r, order, list, got, steps)
		}
		if steps < fewest {
			best, fewest = order, steps
		}
	}
	if got := impl.PlanBest(growPlaces, list, r); !slices.Equal(got, best) {
		t.Fatalf("PlanBest(%v, %v) = %v, want %v", list, r, got, best)
	}
	return best
}

// drawnRule returns a rule of growPlaces with literals of a table, and a head of the variables that these have.
func drawnRule(next func(int) int) impl.Rule {
	lits := []impl.Lit{
		yes(0), yes(1, varW), yes(1, varX), yes(1, 1), yes(2, varW, varX), yes(2, varX, varY), yes(2, varY, varY), yes(2, varX, 3), yes(2, 1, varZ), yes(3, varW), yes(4, varZ, varY),
		no(0), no(1, varX), no(2, varX, varW), no(3, 4), no(4, varY, varZ), same(varW, varX), same(2, 2), less(varX, varW), less(varY, 4), less(0, varZ),
	}
	heads := []impl.Atom{atom(0), atom(1, varW), atom(3, varX), atom(3, 5), atom(4, varX, varW), atom(4, varY, 1), atom(2, varZ, varZ), atom(2, varY, varX)}
	for {
		r := rule(heads[next(len(heads))])
		for range 1 + next(4) {
			r.Body = append(r.Body, lits[next(len(lits))])
		}
		if plainSafe(r) {
			return r
		}
	}
}

// As many predicates, literals and constants as there may be.
func TestPlansOfAllFacts(t *testing.T) {
	arity := slices.Repeat([]int{2}, impl.MaxPreds)
	all := allOf(arity)
	last := impl.MaxPreds - 1
	ring := rule(atom(last, varZ, varX), yes(last, varW, varX), yes(0, varX, varY), yes(last, varY, varZ), yes(0, varZ, varW))
	plan := impl.PlanOf(arity, ring)
	if got := impl.PlanRun(arity, all, plan); !sameFacts(got, impl.AllFacts(last, 2)) {
		t.Errorf("PlanRun has %d facts", len(got))
	}
	if got := impl.PlanSteps(arity, all, plan); got != 36+36*36+216*36+1296 {
		t.Errorf("PlanSteps = %d", got)
	}
	apart, ok := impl.PlanBy(arity, ring, []int{0, 2, 1, 3})
	if got := impl.PlanSteps(arity, all, apart); !ok || got != 36+36*36+1296+1296 {
		t.Errorf("PlanSteps = %d", got)
	}
	if got := impl.PlanBest(arity, all, ring); !slices.Equal(got, []int{0, 2, 1, 3}) {
		t.Errorf("PlanBest = %v", got)
	}
	if got := impl.PlanOrders(arity, ring); !sameLists(got, everyOrder(4)) {
		t.Errorf("PlanOrders has %d orders", len(got))
	}
	checkNoPlan(t, "a predicate past the end", arity, all, planWith(opScan(impl.MaxPreds, varW, varX), opYield(0, varW, varX)))
	more := append(slices.Clone(arity), 2)
	checkNoPlan(t, "a predicate too many", more, all, plan)
	if len(impl.PlanOf(more, ring)) != 0 || len(impl.PlanOrders(more, ring)) != 0 || len(impl.PlanBest(more, all, ring)) != 0 {
		t.Error("a predicate too many: a plan")
	}
}

func TestPlansNilIsEmpty(t *testing.T) {
	for _, args := range [][]int{nil, {}} {
		head := impl.Atom{Args: args}
		for _, body := range [][]impl.Lit{nil, {}} {
			r := impl.Rule{Head: head, Body: body}
			for _, order := range [][]int{nil, {}} {
				if got, ok := impl.PlanBy([]int{0}, r, order); !ok || !samePlan(got, planWith(opYield(0))) {
					t.Errorf("PlanBy without a body = %v, %v", got, ok)
				}
			}
			if got := impl.PlanOrders([]int{0}, r); len(got) != 1 || len(got[0]) != 0 {
				t.Errorf("PlanOrders without a body = %v", got)
			}
			if got := impl.PlanOf([]int{0}, r); !samePlan(got, planWith(opYield(0))) {
				t.Errorf("PlanOf without a body = %v", got)
			}
			for _, list := range [][]impl.Fact{nil, {}} {
				if got := impl.PlanBest([]int{0}, list, r); len(got) != 0 {
					t.Errorf("PlanBest without a body = %v", got)
				}
			}
		}
		for _, kind := range []int{impl.OpLook, impl.OpDeny} {
			plan := planWith(impl.Op{Kind: kind, Atom: head}, impl.Op{Kind: impl.OpYield, Atom: head})
			list := []impl.Fact{{Args: args}}
			got, none := impl.PlanRun([]int{0}, list, plan), impl.PlanRun([]int{0}, []impl.Fact{}, plan)
			if (len(got) == 1) != (kind == impl.OpLook) || len(got)+len(none) != 1 || impl.PlanSteps([]int{0}, list, plan) != 1 || impl.PlanSteps([]int{0}, nil, plan) != 1 {
				t.Errorf("PlanRun of %v = %v, and of nothing %v", plan, got, none)
			}
		}
	}
	for _, arity := range [][]int{nil, {}} {
		for _, plan := range [][]impl.Op{nil, {}} {
			checkNoPlan(t, "nothing", arity, nil, plan)
			checkNoPlan(t, "nothing", arity, []impl.Fact{}, plan)
		}
	}
}

func TestPlansArgumentsAreNotChanged(t *testing.T) {
	next := numbersFrom(12)
	rules := modelRules()
	for range 60 {
		rules = append(rules, drawnRule(next))
	}
	for _, plain := range rules {
		r, arity := roomyRule(plain), roomyNumbers(growPlaces)
		order := roomyNumbers(plainSoonest(plain))
		for _, facts := range growLists() {
			list := roomy(facts)
			plan := roomyPlan(impl.PlanOf(arity, r))
			before := planNumbers(arity, r, order, list, plan)
			impl.PlanOk(arity, plan)
			impl.PlanOf(arity, r)
			impl.PlanBy(arity, r, order)
			impl.PlanOrders(arity, r)
			impl.PlanRun(arity, list, plan)
			impl.PlanSteps(arity, list, plan)
			impl.PlanBest(arity, list, r)
			if !slices.Equal(planNumbers(arity, r, order, list, plan), before) {
				t.Fatalf("an argument is changed by the plan of %v", plain)
			}
		}
	}
}

func TestPlansShareNothing(t *testing.T) {
	for _, c := range planCases() {
		r, arity, order := roomyRule(c.rule), roomyNumbers(growPlaces), roomyNumbers(c.order)
		before := planNumbers(arity, r, order, nil, nil)
		calls := map[string]func() []impl.Op{
			"PlanOf": func() []impl.Op { return impl.PlanOf(arity, r) },
			"PlanBy": func() []impl.Op { plan, _ := impl.PlanBy(arity, r, order); return plan },
		}
		for name, call := range calls {
			first, second := call(), call()
			var terms [][]int
			for _, op := range second {
				terms = append(terms, op.Atom.Args)
			}
			checkNumbersApart(t, terms)
			scribblePlan(first)
			if !samePlan(second, c.want) || !samePlan(call(), c.want) {
				t.Errorf("%s: writing to %s changes another result", c.name, name)
			}
			if !slices.Equal(planNumbers(arity, r, order, nil, nil), before) {
				t.Errorf("%s: writing to %s changes an argument", c.name, name)
			}
		}
		plan := impl.PlanOf(arity, r)
		scribbleRule(r)
		fill(order[:cap(order)])
		if !samePlan(plan, c.want) {
			t.Errorf("%s: writing to an argument changes a plan", c.name)
		}
	}
}

func TestOrdersShareNothing(t *testing.T) {
	arity := roomyNumbers(growPlaces)
	list := roomy(growLists()[2])
	for _, plain := range []impl.Rule{
		rule(atom(0), yes(2, varW, varX), yes(2, varX, varY), yes(1, varY), no(1, varX)),
		rule(atom(0), yes(2, varW, varX), yes(1, varW), yes(0)),
		rule(atom(0), yes(0)),
	} {
		r := roomyRule(plain)
		before := planNumbers(arity, r, nil, list, nil)
		orders := impl.PlanOrders(arity, r)
		checkNumbersApart(t, slices.Clone(orders))
		checkApart(t, "PlanOrders", func() [][]int { return impl.PlanOrders(arity, r) }, -77)
		checkApart(t, "PlanBest", func() [][]int { return [][]int{impl.PlanBest(arity, list, r)} }, -77)
		if !slices.Equal(planNumbers(arity, r, nil, list, nil), before) {
			t.Errorf("writing to orders of %v changes an argument", plain)
		}
		first, second := impl.PlanOrders(arity, r), impl.PlanOrders(arity, r)
		every := first[:cap(first)]
		for i := range every {
			every[i] = nil
		}
		if !sameLists(second, orders) || !sameLists(impl.PlanOrders(arity, r), orders) {
			t.Errorf("two lists of orders of %v share memory", plain)
		}
	}
}

func TestPlanRunSharesNothing(t *testing.T) {
	arity, list := roomyNumbers(growPlaces), roomy(growLists()[2])
	plans := map[string][]impl.Op{
		"a copy":          roomyPlan(planWith(opScan(2, varW, varX), opYield(2, varW, varX))),
		"constants":       roomyPlan(planWith(opScan(2, varW, varX), opYield(2, 4, varX))),
		"constants alone": roomyPlan(planWith(opYield(2, 4, 1))),
		"a look":          roomyPlan(planWith(opScan(1, varX), opLook(1, varX), opYield(1, varX))),
	}
	for name, plan := range plans {
		before := planNumbers(arity, rule(atom(0)), nil, list, plan)
		calls := map[string]func() []impl.Fact{name: func() []impl.Fact { return impl.PlanRun(arity, list, plan) }}
		checkCallsApart(t, calls, func() bool { return slices.Equal(planNumbers(arity, rule(atom(0)), nil, list, plan), before) })
	}
	got := impl.PlanRun(arity, list, plans["a copy"])
	want := deepCopy(got)
	scribble(list)
	scribblePlan(plans["a copy"])
	if !sameFacts(got, want) || len(want) != 3 {
		t.Error("writing to an argument changes what a plan told")
	}
}

// everyOrder returns all orders of so many indexes, by the first one that differs.
func everyOrder(many int) [][]int {
	var orders [][]int
	for n := range power(many, many) {
		order := digits(n, many, many)
		slices.Reverse(order)
		if len(slices.Compact(slices.Sorted(slices.Values(order)))) == many {
			orders = append(orders, order)
		}
	}
	return orders
}

// plainPlanOk writes down which variables have something.
func plainPlanOk(arity []int, plan []impl.Op) bool {
	if len(plan) < 1 || len(plan) > 5 {
		return false
	}
	known := map[int]bool{}
	for i, op := range plan {
		open := false
		for _, term := range op.Atom.Args {
			open = open || term < 0 && !known[term]
		}
		lit := impl.Lit{Atom: op.Atom}
		switch op.Kind {
		case impl.OpSame:
			lit.Kind = impl.LitSame
		case impl.OpLess:
			lit.Kind = impl.LitLess
		case impl.OpScan, impl.OpLook, impl.OpDeny, impl.OpYield:
		default:
			return false
		}
		if !impl.LitOk(arity, lit) || open != (op.Kind == impl.OpScan) || (op.Kind == impl.OpYield) != (i+1 == len(plan)) {
			return false
		}
		for _, term := range op.Atom.Args {
			known[term] = true
		}
	}
	return true
}

// plainPlanRun does operation by operation for all that variables have then, and counts the facts that are looked at.
func plainPlanRun(list []impl.Fact, plan []impl.Op) ([]impl.Fact, int) {
	var told []impl.Fact
	steps := 0
	binds := [][]int{nothing()}
	for _, op := range plan {
		var further [][]int
		for _, bind := range binds {
			values, _ := plainValues(op.Atom.Args, bind)
			f := impl.Fact{Pred: op.Atom.Pred, Args: values}
			on := false
			switch op.Kind {
			case impl.OpScan:
				for _, g := range list {
					if g.Pred != op.Atom.Pred {
						continue
					}
					steps++
					if more := plainMatch(op.Atom, g, bind); more != nil {
						further = append(further, more)
					}
				}
			case impl.OpLook:
				on = plainHas(list, f)
				steps++
			case impl.OpDeny:
				on = !plainHas(list, f)
				steps++
			case impl.OpSame:
				on = values[0] == values[1]
			case impl.OpLess:
				on = values[0] < values[1]
			case impl.OpYield:
				told = plainWith(told, f)
			}
			if on {
				further = append(further, bind)
			}
		}
		binds = further
	}
	return told, steps
}

// isOpen tells whether a literal has a variable that the ones ahead of it do not have in an atom that is to hold.
func isOpen(l impl.Lit, ahead []impl.Lit) bool {
	return !plainSafe(impl.Rule{Head: impl.Atom{Args: l.Atom.Args}, Body: slices.DeleteFunc(slices.Clone(ahead), func(m impl.Lit) bool { return m.Kind != impl.LitYes })})
}

func plainPlanBy(r impl.Rule, order []int) ([]impl.Op, bool) {
	var ahead []impl.Lit
	var plan []impl.Op
	for _, at := range order {
		l := r.Body[at]
		kind := map[int]int{impl.LitYes: impl.OpLook, impl.LitNo: impl.OpDeny, impl.LitSame: impl.OpSame, impl.LitLess: impl.OpLess}[l.Kind]
		if isOpen(l, ahead) {
			if l.Kind != impl.LitYes {
				return nil, false
			}
			kind = impl.OpScan
		}
		plan = append(plan, impl.Op{Kind: kind, Atom: l.Atom})
		ahead = append(ahead, l)
	}
	return append(plan, impl.Op{Kind: impl.OpYield, Atom: r.Head}), true
}

// plainSoonest returns the order of PlanOf for a safe rule.
func plainSoonest(r impl.Rule) []int {
	var order []int
	var ahead []impl.Lit
	left := numbersTo(len(r.Body))
	for len(left) > 0 {
		i := slices.IndexFunc(left, func(at int) bool { return !isOpen(r.Body[at], ahead) })
		if i < 0 {
			i = slices.IndexFunc(left, func(at int) bool { return r.Body[at].Kind == impl.LitYes })
		}
		order = append(order, left[i])
		ahead = append(ahead, r.Body[left[i]])
		left = slices.Delete(left, i, i+1)
	}
	return order
}

func samePlan(a, b []impl.Op) bool {
	return slices.EqualFunc(a, b, func(x, y impl.Op) bool { return x.Kind == y.Kind && sameAtom(x.Atom, y.Atom) })
}

// roomyPlan returns a copy of operations with unused capacity behind the list and behind all terms.
func roomyPlan(plan []impl.Op) []impl.Op {
	out := make([]impl.Op, 0, len(plan)+3)
	for _, op := range plan {
		out = append(out, impl.Op{Kind: op.Kind, Atom: roomyAtom(op.Atom)})
	}
	return out
}

// planNumbers returns all numbers of the arguments of the chapter's functions, those of unused capacity among them.
func planNumbers(arity []int, r impl.Rule, order []int, list []impl.Fact, plan []impl.Op) []int {
	out := slices.Concat(arity[:cap(arity)], order[:cap(order)], ruleNumbers(r))
	for _, f := range whole(list) {
		out = append(append(out, f.Pred), f.Args...)
	}
	for _, op := range plan[:cap(plan)] {
		out = append(append(out, op.Kind, op.Atom.Pred, len(op.Atom.Args)), op.Atom.Args[:cap(op.Atom.Args)]...)
	}
	return out
}

// scribblePlan overwrites operations, and all unused capacity.
func scribblePlan(plan []impl.Op) {
	plan = plan[:cap(plan)]
	for i := range plan {
		fill(plan[i].Atom.Args[:cap(plan[i].Atom.Args)])
		plan[i] = opYield(-77, -77)
	}
}
