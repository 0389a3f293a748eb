package tests

import (
	"math"
	"slices"
	"testing"

	"loop.example/wholerules/impl"
)

func call(pred int, args ...int) impl.Call {
	return impl.Call{Pred: pred, Args: args}
}

func sameCall(a, b impl.Call) bool {
	return a.Pred == b.Pred && slices.Equal(a.Args, b.Args)
}

func sameCalls(a, b []impl.Call) bool {
	return slices.EqualFunc(a, b, sameCall)
}

func TestCallOf(t *testing.T) {
	cases := []struct {
		name string
		a    impl.Atom
		bind []int
		want impl.Call
	}{
		{"no places", atom(3), nothing(), call(3)},
		{"no places, and variables have something", atom(3), []int{1, 2, 3, 4}, call(3)},
		{"constants", atom(4, 0, 5), nothing(), call(4, 0, 5)},
		{"variables have nothing", atom(4, varW, varZ), nothing(), call(4, -1, -1)},
		{"a variable twice, which has nothing", atom(4, varZ, varZ), nothing(), call(4, -1, -1)},
		{"a variable twice", atom(4, varX, varX), []int{-1, 5, -1, -1}, call(4, 5, 5)},
		{"one variable has something", atom(4, varX, varY), []int{3, -1, 0, 4}, call(4, -1, 0)},
		{"a variable and a constant", atom(2, varZ, 2), []int{-1, -1, -1, 4}, call(2, 4, 2)},
		{"more terms than places", atom(0, varW, 1, varX, varY, varZ), []int{0, 5, -1, 2}, call(0, 0, 1, 5, -1, 2)},
		{"a predicate below 0", atom(-1, 1), nothing(), call(-1, 1)},
		{"a predicate past the end", atom(math.MaxInt, varX), nothing(), call(math.MaxInt, -1)},
		{"the least predicate", atom(math.MinInt), nothing(), call(math.MinInt)},
	}
	for _, c := range cases {
		if got := impl.CallOf(c.a, c.bind); !sameCall(got, c.want) {
			t.Errorf("%s: CallOf = %v, want %v", c.name, got, c.want)
		}
	}
	for _, bind := range everyBind() {
		for _, a := range []impl.Atom{atom(1, varX), atom(4, varZ, varW), atom(2, varY, 3), atom(7, varY, varY), atom(0), atom(9, varW, varX, varY, varZ)} {
			if got := impl.CallOf(a, bind); !sameCall(got, plainCallOf(a, bind)) {
				t.Fatalf("CallOf(%v, %v) = %v", a, bind, got)
			}
		}
	}
}

func TestCallOfWhatIsNone(t *testing.T) {
	for name, bind := range noBinds() {
		for _, a := range []impl.Atom{atom(3), atom(3, 1), atom(3, varW, varX)} {
			if got := impl.CallOf(a, bind); !sameCall(got, impl.Call{}) {
				t.Errorf("%s: CallOf(%v, ..) = %v", name, a, got)
			}
		}
	}
	for _, term := range noTerms() {
		for _, a := range []impl.Atom{atom(3, term), atom(3, term, 1), atom(3, varX, term), atom(3, 1, 2, 3, term)} {
			if got := impl.CallOf(a, []int{1, 2, 3, 4}); !sameCall(got, impl.Call{}) {
				t.Errorf("CallOf(%v, ..) = %v", a, got)
			}
		}
	}
}

// leadCase is rules of growPlaces, facts, a call, and the calls to which it leads at once.
type leadCase struct {
	name  string
	rules []impl.Rule
	db    []impl.Fact
	from  impl.Call
	want  []impl.Call
}

func leadCases() []leadCase {
	ways, chain := wayRules(), chainOf(2, 3)
	leftWay := []impl.Rule{ways[0], rule(atom(4, varW, varX), yes(4, varW, varY), yes(2, varY, varX))}
	given := rule(atom(3, 5))
	twice := []impl.Rule{given, rule(atom(4, varZ, varZ), yes(3, varZ))}
	constant := []impl.Rule{given, rule(atom(4, 1, varX), yes(3, varX))}
	both := []impl.Rule{given, rule(atom(4, varW, varX), yes(3, varX), yes(3, varW))}
	askingEnds := func(body ...impl.Lit) []impl.Rule { return []impl.Rule{given, rule(atom(0), body...)} }
	return []leadCase{
		{"ways from 0", ways, chain, call(4, 0, -1), []impl.Call{call(4, 1, -1)}},
		{"ways from the end", ways, chain, call(4, 3, -1), nil},
		{"a way from 1 to 5", ways, chain, call(4, 1, 5), []impl.Call{call(4, 2, 5)}},
		{"ways to 5", ways, chain, call(4, -1, 5), []impl.Call{call(4, 1, 5), call(4, 2, 5), call(4, 3, 5)}},
		{"all ways", ways, chain, call(4, -1, -1), []impl.Call{call(4, 1, -1), call(4, 2, -1), call(4, 3, -1)}},
		{"edges, of which no rule says anything", ways, chain, call(2, 0, -1), nil},
		{"no edges", ways, nil, call(4, -1, -1), nil},
		{"ways that are given are no edges", ways, []impl.Fact{fact(4, 0, 1)}, call(4, 0, -1), nil},
		{"itself", leftWay, chain, call(4, 5, -1), []impl.Call{call(4, 5, -1)}},
		{"itself, where nothing is known", leftWay, nil, call(4, -1, -1), []impl.Call{call(4, -1, -1)}},
		{"one of which less is known", leftWay, chain, call(4, -1, 2), []impl.Call{call(4, -1, -1)}},
		{"itself without places", []impl.Rule{rule(atom(0), yes(0))}, nil, call(0), []impl.Call{call(0)}},
		{"without places", []impl.Rule{given, rule(atom(0), yes(3, 2), yes(0), yes(3, 5))}, nil, call(0), []impl.Call{call(3, 2)}},
		{"without places, which is given", []impl.Rule{given, rule(atom(0), yes(3, 5), yes(0), yes(3, 2))}, []impl.Fact{fact(0)}, call(0), []impl.Call{call(3, 5), call(0), call(3, 2)}},
		{"a head with a variable twice, of two constants", twice, nil, call(4, 1, 2), nil},
		{"a head with a variable twice, of the same", twice, nil, call(4, 2, 2), []impl.Call{call(3, 2)}},
		{"a head with a variable twice, the first is known", twice, nil, call(4, 0, -1), []impl.Call{call(3, 0)}},
		{"a head with a variable twice, the second is known", twice, nil, call(4, -1, 5), []impl.Call{call(3, 5)}},
		{"a head with a variable twice, none is known", twice, nil, call(4, -1, -1), []impl.Call{call(3, -1)}},
		{"a head with its constant", constant, nil, call(4, 1, 4), []impl.Call{call(3, 4)}},
		{"a head with another constant", constant, nil, call(4, 2, 4), nil},
		{"a head with a constant, which is not known", constant, nil, call(4, -1, 0), []impl.Call{call(3, 0)}},
		{"a head with a constant, and no other is known", constant, nil, call(4, 1, -1), []impl.Call{call(3, -1)}},
		{"another constant, and no other is known", constant, nil, call(4, 0, -1), nil},
		{"an atom with a variable twice", []impl.Rule{ways[0], rule(atom(1, varW), yes(4, varW, varW))}, chain, call(1, 3), []impl.Call{call(4, 3, 3)}},
		{"an atom with a variable twice, which is not known", []impl.Rule{ways[0], rule(atom(1, varW), yes(4, varW, varW))}, chain, call(1, -1), []impl.Call{call(4, -1, -1)}},
		{"known by the atom ahead, and by the head", both, nil, call(4, 3, -1), []impl.Call{call(3, -1), call(3, 3)}},
		{"nothing ahead that holds", both, nil, call(4, -1, 4), []impl.Call{call(3, 4)}},
		{"each once", both, nil, call(4, 5, 5), []impl.Call{call(3, 5)}},
		{"each once, of many", askingEnds(yes(2, varW, varX), yes(3, varW)), []impl.Fact{fact(2, 0, 1), fact(2, 0, 2), fact(2, 4, 2)}, call(0), []impl.Call{call(3, 0), call(3, 4)}},
		{"in the order of what variables have", askingEnds(yes(2, varX, varW), yes(3, varX)), []impl.Fact{fact(2, 0, 3), fact(2, 1, 2), fact(2, 5, 0)}, call(0), []impl.Call{call(3, 5), call(3, 1), call(3, 0)}},
		{"in this order, whatever comes first", askingEnds(yes(2, varY, varZ), yes(2, varW, varX), yes(3, varZ)), []impl.Fact{fact(2, 0, 4), fact(2, 3, 1)}, call(0), []impl.Call{call(3, 4), call(3, 1)}},
		{"in this order, with what comes first behind", append(askingEnds(yes(2, varY, varZ), yes(2, varW, varX), yes(4, varX, varZ)), ways...), []impl.Fact{fact(2, 0, 4), fact(2, 3, 1)}, call(0), []impl.Call{call(4, 4, 4), call(4, 4, 1), call(4, 1, 4), call(4, 1, 1)}},
		{"in this order, with the head's variable behind", append([]impl.Rule{rule(atom(1, varZ), yes(2, varY, varX), yes(2, varW, varZ), yes(4, varX, varW))}, ways...), []impl.Fact{fact(2, 0, 4), fact(2, 2, 5), fact(2, 3, 5)}, call(1, 5), []impl.Call{call(4, 4, 2), call(4, 5, 2), call(4, 4, 3), call(4, 5, 3)}},
		{"literal by literal, and rule by rule", append(askingEnds(yes(2, varW, varX), yes(3, varX), yes(2, varX, varY), yes(3, 1)), rule(atom(0), yes(0)), rule(atom(0), yes(3, varW))), []impl.Fact{fact(2, 0, 1), fact(2, 1, 3)}, call(0), []impl.Call{call(3, 1), call(3, 3), call(0), call(3, -1)}},
		{"what is compared does not count", askingEnds(less(varX, varW), same(varW, 5), yes(2, varW, varX), yes(3, varX)), chain, call(0), []impl.Call{call(3, 1), call(3, 2), call(3, 3)}},
		{"what is the same is not known", askingEnds(same(varX, 4), yes(3, varX), yes(1, varX)), nil, call(0), []impl.Call{call(3, -1)}},
		{"what is given of a head stands ahead", append(askingEnds(yes(3, varX), yes(4, varX, varY)), ways...), []impl.Fact{fact(3, 1), fact(3, 4)}, call(0), []impl.Call{call(3, -1), call(4, 1, -1), call(4, 4, -1), call(4, 5, -1)}},
		{"what is said stands ahead", append(askingEnds(yes(4, 1, varX), yes(3, varX)), ways...), chain, call(0), []impl.Call{call(4, 1, -1), call(3, 2), call(3, 3)}},
		{"as many literals as there may be", append(askingEnds(yes(2, varW, varX), yes(2, varX, varY), yes(2, varY, varZ), yes(3, varZ)), ways...), chain, call(0), []impl.Call{call(3, 3)}},
		{"literals of no rules", askingEnds(yes(2, varW, varX), yes(1, varX)), chain, call(0), nil},
		{"rules without bodies", []impl.Rule{given, rule(atom(3, 1))}, nil, call(3, -1), nil},
	}
}

func TestCallLeads(t *testing.T) {
	for _, c := range leadCases() {
		if got, ok := impl.CallLeads(growing(c.rules...), c.db, c.from); !ok || !sameCalls(got, c.want) {
			t.Errorf("%s: CallLeads = %v, %v, want %v", c.name, got, ok, c.want)
		}
	}
}

// tableCase is rules of growPlaces, facts, a question, the calls to which it leads, and its answers.
type tableCase struct {
	name    string
	rules   []impl.Rule
	db      []impl.Fact
	ask     impl.Atom
	calls   []impl.Call
	answers []impl.Fact
}

func tableCases() []tableCase {
	ways, chain := wayRules(), chainOf(2, 3)[:3:3]
	circle := append(chainOf(2, 2), fact(2, 2, 0))
	fork := []impl.Fact{fact(2, 0, 2), fact(2, 0, 3), fact(2, 2, 5), fact(2, 3, 4)}
	leftWay := []impl.Rule{ways[0], rule(atom(4, varW, varX), yes(4, varW, varY), yes(2, varY, varX))}
	twice := []impl.Rule{rule(atom(4, varZ, varZ), yes(1, varZ)), rule(atom(4, 5, varX), yes(4, varX, 5)), rule(atom(3, varW), yes(4, varW, 5))}
	each := []impl.Rule{rule(atom(0), yes(3, 4)), rule(atom(1, varW), yes(0), yes(2, varW, varX), yes(3, varX)), rule(atom(3, varY), yes(1, varY)), rule(atom(3, 3))}
	return []tableCase{
		{"of the document", ways, chainOf(2, 2), atom(4, 0, varW), []impl.Call{call(4, 0, -1), call(4, 1, -1), call(4, 2, -1)}, []impl.Fact{fact(4, 0, 1), fact(4, 0, 2)}},
		{"in the order of calls", ways, fork, atom(4, 0, varX), []impl.Call{call(4, 0, -1), call(4, 2, -1), call(4, 3, -1), call(4, 5, -1), call(4, 4, -1)}, []impl.Fact{fact(4, 0, 2), fact(4, 0, 3), fact(4, 0, 4), fact(4, 0, 5)}},
		{"a way that there is", ways, chain, atom(4, 1, 3), []impl.Call{call(4, 1, 3), call(4, 2, 3), call(4, 3, 3)}, []impl.Fact{fact(4, 1, 3)}},
		{"a way that there is not", ways, chain, atom(4, 2, 1), []impl.Call{call(4, 2, 1), call(4, 3, 1)}, nil},
		{"ways to 2", ways, chain, atom(4, varZ, 2), []impl.Call{call(4, -1, 2), call(4, 1, 2), call(4, 2, 2), call(4, 3, 2)}, []impl.Fact{fact(4, 0, 2), fact(4, 1, 2)}},
		{"all ways", ways, chainOf(2, 2), atom(4, varX, varW), []impl.Call{call(4, -1, -1), call(4, 1, -1), call(4, 2, -1)}, []impl.Fact{fact(4, 0, 1), fact(4, 0, 2), fact(4, 1, 2)}},
		{"ways back", ways, circle, atom(4, varX, varX), []impl.Call{call(4, -1, -1), call(4, 1, -1), call(4, 2, -1), call(4, 0, -1)}, []impl.Fact{fact(4, 0, 0), fact(4, 1, 1), fact(4, 2, 2)}},
		{"a circle, which leads to where it began", ways, circle, atom(4, 1, varX), []impl.Call{call(4, 1, -1), call(4, 2, -1), call(4, 0, -1)}, []impl.Fact{fact(4, 1, 0), fact(4, 1, 1), fact(4, 1, 2)}},
		{"a call that leads to itself", leftWay, circle, atom(4, 1, varX), []impl.Call{call(4, 1, -1)}, []impl.Fact{fact(4, 1, 0), fact(4, 1, 1), fact(4, 1, 2)}},
		{"a call that leads to one of which less is known", leftWay, chainOf(2, 2), atom(4, varW, 2), []impl.Call{call(4, -1, 2), call(4, -1, -1)}, []impl.Fact{fact(4, 0, 2), fact(4, 1, 2)}},
		{"edges alone", ways, chain, atom(2, 1, varW), []impl.Call{call(2, 1, -1)}, []impl.Fact{fact(2, 1, 2)}},
		{"edges back, of which there is one", ways, append(chainOf(2, 2), fact(2, 3, 3)), atom(2, varY, varY), []impl.Call{call(2, -1, -1)}, []impl.Fact{fact(2, 3, 3)}},
		{"no rules, and no facts", nil, nil, atom(1, varX), []impl.Call{call(1, -1)}, nil},
		{"no places, and no rules", nil, []impl.Fact{fact(0), fact(1, 2)}, atom(0), []impl.Call{call(0)}, []impl.Fact{fact(0)}},
		{"no places, and not given", ways, chain, atom(0), []impl.Call{call(0)}, nil},
		{"no places, which asks itself", []impl.Rule{rule(atom(0), yes(0))}, nil, atom(0), []impl.Call{call(0)}, nil},
		{"no places, which asks itself, and is given", []impl.Rule{rule(atom(0), yes(0))}, []impl.Fact{fact(0)}, atom(0), []impl.Call{call(0)}, []impl.Fact{fact(0)}},
		{"no places, which asks others", each, append(chain, fact(2, 4, 3)), atom(0), []impl.Call{call(0), call(3, 4), call(1, 4)}, nil},
		{"no places, which holds", each, append(chain, fact(2, 4, 3), fact(3, 4)), atom(0), []impl.Call{call(0), call(3, 4), call(1, 4), call(3, 3), call(1, 3)}, []impl.Fact{fact(0)}},
		{"those that ask each other", each, append(chain, fact(3, 4)), atom(3, varX), []impl.Call{call(3, -1), call(1, -1), call(0), call(3, 1), call(3, 2), call(3, 3), call(3, 4), call(1, 1), call(1, 2), call(1, 3), call(1, 4)}, []impl.Fact{fact(3, 0), fact(3, 1), fact(3, 2), fact(3, 3), fact(3, 4)}},
		{"heads with a variable twice", twice, []impl.Fact{fact(1, 2), fact(1, 5)}, atom(4, 2, varX), []impl.Call{call(4, 2, -1)}, []impl.Fact{fact(4, 2, 2)}},
		{"heads with a constant", twice, []impl.Fact{fact(1, 2), fact(1, 5), fact(4, 3, 5)}, atom(3, varX), []impl.Call{call(3, -1), call(4, -1, 5), call(4, 5, 5)}, []impl.Fact{fact(3, 3), fact(3, 5)}},
		{"heads with a constant that is known", twice, []impl.Fact{fact(1, 2), fact(1, 5), fact(4, 3, 5)}, atom(4, 5, varX), []impl.Call{call(4, 5, -1), call(4, -1, 5), call(4, 5, 5)}, []impl.Fact{fact(4, 5, 3), fact(4, 5, 5)}},
		{"a way that is given", ways, []impl.Fact{fact(2, 0, 1), fact(4, 1, 5), fact(4, 4, 3)}, atom(4, 0, varX), []impl.Call{call(4, 0, -1), call(4, 1, -1)}, []impl.Fact{fact(4, 0, 1), fact(4, 0, 5)}},
		{"comparisons that do not hold", []impl.Rule{rule(atom(1, 3)), rule(atom(3, varW), less(varX, varW), yes(2, varW, varX), yes(1, varX))}, append(chain, fact(2, 5, 3)), atom(3, varZ), []impl.Call{call(3, -1), call(1, 1), call(1, 2), call(1, 3)}, []impl.Fact{fact(3, 5)}},
		{"a rule without a body", []impl.Rule{rule(atom(1, 3)), rule(atom(1, 4))}, []impl.Fact{fact(1, 5)}, atom(1, varX), []impl.Call{call(1, -1)}, []impl.Fact{fact(1, 3), fact(1, 4), fact(1, 5)}},
		{"a rule without a body, with another constant", []impl.Rule{rule(atom(1, 3)), rule(atom(1, 4), same(2, 2))}, nil, atom(1, 4), []impl.Call{call(1, 4)}, []impl.Fact{fact(1, 4)}},
	}
}

func TestTables(t *testing.T) {
	for _, c := range tableCases() {
		p := growing(c.rules...)
		if got, ok := impl.CallsOf(p, c.db, c.ask); !ok || !sameCalls(got, c.calls) {
			t.Errorf("%s: CallsOf = %v, %v, want %v", c.name, got, ok, c.calls)
		}
		if got, ok := impl.TableAnswers(p, c.db, c.ask); !ok || !sameFacts(got, c.answers) {
			t.Errorf("%s: TableAnswers = %v, %v, want %v", c.name, got, ok, c.answers)
		}
	}
}

func TestCallAnswers(t *testing.T) {
	ways := wayRules()
	circle := append(chainOf(2, 2), fact(2, 2, 0))
	cases := []struct {
		name  string
		rules []impl.Rule
		db    []impl.Fact
		from  impl.Call
		want  []impl.Fact
	}{
		{"nothing is known", ways, chainOf(2, 2), call(4, -1, -1), []impl.Fact{fact(4, 0, 1), fact(4, 0, 2), fact(4, 1, 2)}},
		{"nothing is known, and not the same", ways, circle, call(4, -1, -1), impl.FactsLess(impl.AllFacts(4, 2), slices.DeleteFunc(impl.AllFacts(4, 2), func(f impl.Fact) bool { return max(f.Args[0], f.Args[1]) < 3 }))},
		{"the first is known", ways, chainOf(2, 3), call(4, 1, -1), []impl.Fact{fact(4, 1, 2), fact(4, 1, 3)}},
		{"the second is known", ways, chainOf(2, 3), call(4, -1, 2), []impl.Fact{fact(4, 0, 2), fact(4, 1, 2)}},
		{"both are known", ways, chainOf(2, 3), call(4, 0, 2), []impl.Fact{fact(4, 0, 2)}},
		{"both are known, and there is no such fact", ways, chainOf(2, 3), call(4, 2, 0), nil},
		{"given ones", ways, append(chainOf(2, 1), fact(4, 0, 0), fact(4, 3, 1)), call(4, -1, 1), []impl.Fact{fact(4, 0, 1), fact(4, 3, 1)}},
		{"of no rules", ways, chainOf(2, 3), call(2, -1, 3), []impl.Fact{fact(2, 2, 3)}},
		{"no places", []impl.Rule{rule(atom(0), yes(1, 2))}, []impl.Fact{fact(1, 2)}, call(0), []impl.Fact{fact(0)}},
		{"no places, and not said", []impl.Rule{rule(atom(0), yes(1, 2))}, []impl.Fact{fact(1, 1)}, call(0), nil},
		{"one place", []impl.Rule{rule(atom(3, varX), yes(2, varX, varX)), rule(atom(3, 1))}, []impl.Fact{fact(2, 0, 0), fact(2, 4, 4), fact(3, 2)}, call(3, -1), []impl.Fact{fact(3, 0), fact(3, 1), fact(3, 2), fact(3, 4)}},
		{"one place, which is known", []impl.Rule{rule(atom(3, varX), yes(2, varX, varX)), rule(atom(3, 1))}, []impl.Fact{fact(2, 0, 0), fact(2, 4, 4)}, call(3, 4), []impl.Fact{fact(3, 4)}},
	}
	for _, c := range cases {
		if got, ok := impl.CallAnswers(growing(c.rules...), c.db, c.from); !ok || !sameFacts(got, c.want) {
			t.Errorf("%s: CallAnswers = %v, %v, want %v", c.name, got, ok, c.want)
		}
	}
}

func checkNoQuestion(t *testing.T, name string, p impl.Program, db []impl.Fact, ask impl.Atom) {
	t.Helper()
	if got, ok := impl.CallsOf(p, db, ask); ok || len(got) != 0 {
		t.Errorf("%s: CallsOf(%v, %v, %v) = %v, %v", name, p, db, ask, got, ok)
	}
	if got, ok := impl.TableAnswers(p, db, ask); ok || len(got) != 0 {
		t.Errorf("%s: TableAnswers(%v, %v, %v) = %v, %v", name, p, db, ask, got, ok)
	}
}

func checkNoCall(t *testing.T, name string, p impl.Program, db []impl.Fact, c impl.Call) {
	t.Helper()
	if got, ok := impl.CallAnswers(p, db, c); ok || len(got) != 0 {
		t.Errorf("%s: CallAnswers(%v, %v, %v) = %v, %v", name, p, db, c, got, ok)
	}
	if got, ok := impl.CallLeads(p, db, c); ok || len(got) != 0 {
		t.Errorf("%s: CallLeads(%v, %v, %v) = %v, %v", name, p, db, c, got, ok)
	}
}

func TestTablesOfWhatIsNone(t *testing.T) {
	asks := []impl.Atom{atom(0), atom(1, varW), atom(1, 2), atom(3, 2), atom(3, varX), atom(2, varW, varX), atom(4, 0, varX)}
	for name, p := range noPrograms() {
		for _, ask := range asks {
			for _, db := range [][]impl.Fact{nil, {fact(1, 2)}} {
				checkNoQuestion(t, name, p, db, ask)
				checkNoCall(t, name, p, db, plainCallOf(ask, nothing()))
			}
		}
	}
	p := growing(append(wayRules(), rule(atom(3, varW), yes(1, varW)), rule(atom(0)), rule(atom(1, 2)))...)
	for name, db := range noLists() {
		for _, ask := range asks {
			checkNoQuestion(t, name, p, db, ask)
			checkNoCall(t, name, p, db, plainCallOf(ask, nothing()))
		}
	}
	for _, denying := range []impl.Rule{rule(atom(0), no(1, 5)), rule(atom(4, varW, varX), yes(2, varW, varX), no(1, varX)), rule(atom(2, 1, 2), no(0), no(3, 1)), rule(atom(3, 1), no(3, 1))} {
		for _, ask := range asks {
			checkNoQuestion(t, "denying", growing(append(wayRules(), denying)...), chainOf(2, 2), ask)
			checkNoCall(t, "denying", growing(append(wayRules(), denying)...), chainOf(2, 2), plainCallOf(ask, nothing()))
		}
	}
	checkNoQuestion(t, "no predicates", impl.Program{}, nil, impl.Atom{})
	checkNoCall(t, "no predicates", impl.Program{}, nil, impl.Call{})
}

func TestNoQuestionsAndNoCalls(t *testing.T) {
	p := growing(append(wayRules(), rule(atom(3, varW), yes(1, varW)), rule(atom(0)), rule(atom(1, 2)))...)
	shapes := [][]int{{-1}, {5}, {6, 1}, {24}, {math.MaxInt}, {math.MinInt}, {-1, 1}, {0, 1}, {0, -1}, {1}, {1, 2, 3}, {3, -1, -1}, {4, -1}, {4, 1}, {4, -1, 1, -1}, {1, 6}, {4, -1, 6}, {4, 6, -1}, {4, 1, math.MaxInt}, {4, math.MinInt, 1}, {1, math.MaxInt}, {3, math.MinInt}, {2, -5, 1}, {2, 1, -5}}
	for _, db := range [][]impl.Fact{nil, chainOf(2, 2)} {
		for _, shape := range shapes {
			checkNoQuestion(t, "an atom that is none", p, db, atom(shape[0], shape[1:]...))
			checkNoCall(t, "a call that is none", p, db, call(shape[0], shape[1:]...))
		}
		// Variables besides the first one's number are terms, but nothing that is known, and nothing that is not.
		for _, c := range []impl.Call{call(1, -2), call(3, -4), call(4, -2, 1), call(4, 1, -2), call(4, -1, -2), call(4, -3, -1), call(2, -4, -4)} {
			checkNoCall(t, "a call of variables", p, db, c)
			if _, ok := impl.CallsOf(p, db, impl.Atom(c)); !ok {
				t.Errorf("CallsOf(.., %v) is false", c)
			}
		}
	}
}

// The thirteenth promise, for all questions and calls of some programs.
func TestTablesOfEveryQuestion(t *testing.T) {
	table := growRules()
	programs := []impl.Program{
		growing(),
		growing(wayRules()...),
		growing(table[3], table[5], table[9]),
		growing(table[4], table[6], table[7], table[2], table[0]),
		growing(table[1], table[7], table[8], table[10], table[3]),
		growing(table[12], table[9], table[11], table[2]),
		growing(rule(atom(4, 1, varX), yes(3, varX), yes(4, varX, 2)), rule(atom(4, varX, varX), yes(1, varX)), rule(atom(3, 2), yes(0))),
	}
	for _, p := range programs {
		for _, db := range growLists()[1:] {
			model := newPlainCalls(p, db)
			for _, ask := range everyQuestion() {
				checkQuestion(t, model, ask)
			}
			for _, c := range everyCall() {
				checkCall(t, model, c)
			}
		}
	}
}

// Programs of two and three rules of a table, and drawn ones, are held against all that variables may have.
func TestTablesAgainstPlainOnes(t *testing.T) {
	asks, calls, names := everyQuestion(), everyCall(), variableNames()
	table := growRules()
	next := numbersFrom(13)
	counts := map[bool]int{}
	check := func(p impl.Program) {
		for _, db := range growLists() {
			model := newPlainCalls(p, db)
			for range 2 {
				counts[checkQuestion(t, model, asks[next(len(asks))])]++
				checkCall(t, model, calls[next(len(calls))])
			}
		}
	}
	for i := range table {
		for j := range table {
			check(growing(table[i], table[j]))
			check(growing(table[(i+2*j)%len(table)], table[j], table[i]))
		}
	}
	check(growing(table...))
	for range 600 {
		var rules []impl.Rule
		for len(rules) < 1+next(6) {
			if r := drawnRule(next); !denies(growing(r)) {
				rules = append(rules, withNames(r, names[next(len(names))]))
			}
		}
		check(growing(rules...))
	}
	if counts[true] < 1000 || counts[false] < 1000 {
		t.Errorf("%d questions that can be built in, %d that cannot", counts[true], counts[false])
	}
}

// checkCall holds the answers to a call and the calls to which it leads against plain ones.
func checkCall(t *testing.T, model *plainCallModel, c impl.Call) {
	t.Helper()
	if got, ok := impl.CallLeads(model.p, model.db, c); !ok || !sameCalls(got, model.leads(c)) {
		t.Fatalf("CallLeads(%v, %v, %v) = %v, %v, want %v", model.p, model.db, c, got, ok, model.leads(c))
	}
	if got, ok := impl.CallAnswers(model.p, model.db, c); !ok || !sameFacts(got, model.answers(c)) {
		t.Fatalf("CallAnswers(%v, %v, %v) = %v, %v, want %v", model.p, model.db, c, got, ok, model.answers(c))
	}
}

// checkQuestion holds the calls of a question and its answers against plain ones, and against the rules into which it is built,
// and reports whether there are such rules.
func checkQuestion(t *testing.T, model *plainCallModel, ask impl.Atom) bool {
	t.Helper()
	calls := model.calls(ask)
	if got, ok := impl.CallsOf(model.p, model.db, ask); !ok || !sameCalls(got, calls) {
		t.Fatalf("CallsOf(%v, %v, %v) = %v, %v, want %v", model.p, model.db, ask, got, ok, calls)
	}
	want := slices.DeleteFunc(slices.Clone(model.least), func(f impl.Fact) bool { return plainMatch(ask, f, nothing()) == nil })
	if got, ok := impl.TableAnswers(model.p, model.db, ask); !ok || !sameFacts(got, want) {
		t.Fatalf("TableAnswers(%v, %v, %v) = %v, %v, want %v", model.p, model.db, ask, got, ok, want)
	}
	if got, ok := impl.Answers(model.p, model.db, ask); !ok || !sameFacts(got, want) {
		t.Fatalf("Answers(%v, %v, %v) = %v, %v, want %v", model.p, model.db, ask, got, ok, want)
	}
	return checkAsksTheSame(t, model, ask)
}

// checkAsksTheSame checks that the seeds of rules into which a question is built are its calls, and that their own predicates
// have just the answers to these. It reports whether there are such rules.
func checkAsksTheSame(t *testing.T, model *plainCallModel, ask impl.Atom) bool {
	t.Helper()
	q, seed, _, ok := impl.Magic(model.p, ask)
	if !ok {
		return false
	}
	modes, _ := impl.ModesOf(model.p, ask)
	calls, _ := impl.CallsOf(model.p, model.db, ask)
	want := model.db
	for _, c := range calls {
		m := impl.Mode{Pred: c.Pred}
		for _, known := range c.Args {
			m.Known = append(m.Known, known >= 0)
		}
		at := modeIndex(modes, m)
		want = plainWith(want, fact(len(model.p.Arity)+len(modes)+at, knownArgs(m, c.Args)...))
		answers, _ := impl.CallAnswers(model.p, model.db, c)
		for _, f := range answers {
			want = plainWith(want, impl.Fact{Pred: len(model.p.Arity) + at, Args: f.Args})
		}
	}
	if got := impl.Least(q, plainWith(model.db, seed)); !sameFacts(got, want) {
		t.Fatalf("%v is asked of %v and %v: built in it has %v, and by calls %v", ask, model.p, model.db, got, want)
	}
	return true
}

// As many facts, calls, predicates and rules as there may be.
func TestTablesOfAllFacts(t *testing.T) {
	ways := growing(wayRules()...)
	for _, c := range []struct {
		ask     impl.Atom
		calls   int
		answers int
	}{{atom(4, varW, varX), 7, 36}, {atom(4, varZ, varZ), 7, 6}, {atom(4, 5, varX), 6, 6}, {atom(4, varX, 5), 7, 6}, {atom(4, 5, 0), 6, 1}} {
		if got, ok := impl.CallsOf(ways, impl.AllFacts(2, 2), c.ask); !ok || len(got) != c.calls {
			t.Errorf("CallsOf(.., %v) has %d calls, %v", c.ask, len(got), ok)
		}
		if got, ok := impl.TableAnswers(ways, impl.AllFacts(2, 2), c.ask); !ok || len(got) != c.answers || !ascending(got) {
			t.Errorf("TableAnswers(.., %v) has %d facts, %v", c.ask, len(got), ok)
		}
	}
	arity := slices.Repeat([]int{2}, impl.MaxPreds)
	all := allOf(arity)
	p := programWith(arity)
	for at := range impl.MaxRules {
		pred, next := at%impl.MaxPreds, (at+1)%impl.MaxPreds
		p.Rules = append(p.Rules, rule(atom(pred, varZ, varX), yes(next, varW, varX), yes(0, varX, varY), yes(next, varY, varZ), yes(0, varZ, varW)))
	}
	// Each predicate is asked with nothing known, with either place known, and with both, for all constants.
	calls, ok := impl.CallsOf(p, all, atom(0, varW, varX))
	if !ok || len(calls) != impl.MaxPreds*49 {
		t.Errorf("CallsOf has %d calls, %v", len(calls), ok)
	}
	for _, c := range calls {
		if got, ok := impl.CallAnswers(p, all, c); !ok || len(got) != []int{1, 6, 36}[slices.Index([]int{0, 1, 2}, unknownPlaces(c))] {
			t.Fatalf("CallAnswers(.., %v) has %d facts, %v", c, len(got), ok)
		}
	}
	if got, ok := impl.TableAnswers(p, all, atom(0, varW, varX)); !ok || !sameFacts(got, impl.AllFacts(0, 2)) {
		t.Errorf("TableAnswers has %d facts, %v", len(got), ok)
	}
	if got, ok := impl.TableAnswers(p, all, atom(impl.MaxPreds-1, 5, varX)); !ok || len(got) != 6 {
		t.Errorf("TableAnswers has %d facts, %v", len(got), ok)
	}
}

// Answers that come late are handed on to all who wait, over many rounds.
func TestTablesOfManyRounds(t *testing.T) {
	p := counting(20)
	p.Rules = append(p.Rules[:len(p.Rules):len(p.Rules)], rule(atom(1, 0, 0)))
	for pred := 1; pred <= 20; pred++ {
		if got, ok := impl.TableAnswers(p, chainOf(0, 5), atom(pred, varW, varX)); !ok || !sameFacts(got, impl.AllFacts(pred, 2)) {
			t.Errorf("TableAnswers of the counter %d has %d facts, %v", pred, len(got), ok)
		}
		if got, ok := impl.TableAnswers(p, chainOf(0, 5), atom(pred, 5, 5)); !ok || !sameFacts(got, []impl.Fact{fact(pred, 5, 5)}) {
			t.Errorf("TableAnswers of the end of the counter %d = %v, %v", pred, got, ok)
		}
	}
	chain := programWith(slices.Repeat([]int{1}, impl.MaxPreds))
	var want []impl.Call
	for pred := range impl.MaxPreds - 1 {
		chain.Rules = append(chain.Rules, rule(atom(pred+1, varW), yes(pred, varW)))
		want = append([]impl.Call{call(pred+1, 4)}, want...)
	}
	ask, db := atom(impl.MaxPreds-1, 4), []impl.Fact{fact(0, 4), fact(0, 5)}
	if got, ok := impl.CallsOf(chain, db, ask); !ok || !sameCalls(got, want) {
		t.Errorf("CallsOf = %v, %v", got, ok)
	}
	if got, ok := impl.TableAnswers(chain, db, ask); !ok || !sameFacts(got, []impl.Fact{fact(impl.MaxPreds-1, 4)}) {
		t.Errorf("TableAnswers = %v, %v", got, ok)
	}
}

func TestTablesNilIsEmpty(t *testing.T) {
	for _, args := range [][]int{nil, {}} {
		if got := impl.CallOf(impl.Atom{Pred: 2, Args: args}, nothing()); !sameCall(got, call(2)) {
			t.Errorf("CallOf = %v", got)
		}
		for _, body := range [][]impl.Lit{nil, {}} {
			for _, db := range [][]impl.Fact{nil, {}, {{Args: args}}} {
				p := programWith([]int{0, 0}, impl.Rule{Head: impl.Atom{Pred: 1, Args: args}, Body: body}, rule(atom(0), impl.Lit{Atom: impl.Atom{Pred: 1, Args: args}}))
				ask, from := impl.Atom{Args: args}, impl.Call{Args: args}
				if got, ok := impl.CallsOf(p, db, ask); !ok || !sameCalls(got, []impl.Call{call(0), call(1)}) {
					t.Errorf("CallsOf = %v, %v", got, ok)
				}
				if got, ok := impl.CallLeads(p, db, from); !ok || !sameCalls(got, []impl.Call{call(1)}) {
					t.Errorf("CallLeads = %v, %v", got, ok)
				}
				if got, ok := impl.CallAnswers(p, db, from); !ok || !sameFacts(got, []impl.Fact{fact(0)}) {
					t.Errorf("CallAnswers = %v, %v", got, ok)
				}
				if got, ok := impl.TableAnswers(p, db, ask); !ok || !sameFacts(got, []impl.Fact{fact(0)}) {
					t.Errorf("TableAnswers = %v, %v", got, ok)
				}
			}
		}
	}
}

func TestTablesArgumentsAreNotChanged(t *testing.T) {
	table := growRules()
	for i := range table {
		p := roomyProgram(growing(table[i], table[(i+1)%len(table)], table[(i+5)%len(table)]))
		for _, list := range growLists() {
			for _, plain := range []impl.Atom{atom(4, varW, varX), atom(4, 1, varX), atom(1, varZ), atom(3, 5), atom(2, varX, 0), atom(0)} {
				db, ask, from, bind := roomy(list), roomyAtom(plain), impl.Call(roomyAtom(impl.Atom(plainCallOf(plain, nothing())))), roomyNumbers([]int{1, -1, 0, 5})
				numbers := func() []int {
					return slices.Concat(programNumbers(p), ask.Args[:cap(ask.Args)], from.Args[:cap(from.Args)], bind[:cap(bind)])
				}
				want, wantList := numbers(), deepCopy(whole(db))
				impl.CallOf(ask, bind)
				impl.CallsOf(p, db, ask)
				impl.TableAnswers(p, db, ask)
				impl.CallLeads(p, db, from)
				impl.CallAnswers(p, db, from)
				if !slices.Equal(numbers(), want) || !sameFacts(whole(db), wantList) {
					t.Fatalf("an argument is changed by %v and %v", p, plain)
				}
			}
		}
	}
}

func TestTablesShareNothing(t *testing.T) {
	p := roomyProgram(growing(append(wayRules(), rule(atom(1, varX), yes(4, varX, varX), yes(4, 0, varX)))...))
	db := roomy([]impl.Fact{fact(1, 4), fact(2, 0, 1), fact(2, 1, 0), fact(2, 1, 2), fact(4, 3, 5)})
	ask, from := roomyAtom(atom(4, 0, varX)), impl.Call{Pred: 4, Args: roomyNumbers([]int{0, -1})}
	wantProgram, wantList := programNumbers(p), deepCopy(whole(db))
	unchanged := func() bool {
		return sameFacts(whole(db), wantList) && slices.Equal(programNumbers(p), wantProgram) && slices.Equal(ask.Args[:cap(ask.Args)], []int{0, varX, 0, 0, 0}) && slices.Equal(from.Args[:cap(from.Args)], []int{0, -1, 0, 0, 0})
	}
	answers := map[string]func() []impl.Fact{
		"TableAnswers":                 func() []impl.Fact { got, _ := impl.TableAnswers(p, db, ask); return got },
		"TableAnswers of all":          func() []impl.Fact { got, _ := impl.TableAnswers(p, db, atom(4, varW, varX)); return got },
		"TableAnswers, given ones":     func() []impl.Fact { got, _ := impl.TableAnswers(p, db, atom(4, 3, varX)); return got },
		"TableAnswers, without rules":  func() []impl.Fact { got, _ := impl.TableAnswers(p, db, atom(2, 1, varX)); return got },
		"TableAnswers of 1":            func() []impl.Fact { got, _ := impl.TableAnswers(p, db, atom(1, varX)); return got },
		"CallAnswers":                  func() []impl.Fact { got, _ := impl.CallAnswers(p, db, from); return got },
		"CallAnswers, without rules":   func() []impl.Fact { got, _ := impl.CallAnswers(p, db, call(2, -1, -1)); return got },
		"CallAnswers of 1, given ones": func() []impl.Fact { got, _ := impl.CallAnswers(p, db, call(1, 4)); return got },
		"Answers":                      func() []impl.Fact { got, _ := impl.Answers(p, db, ask); return got },
	}
	checkCallsApart(t, answers, unchanged)
	lists := map[string]func() []impl.Call{
		"CallsOf":             func() []impl.Call { got, _ := impl.CallsOf(p, db, ask); return got },
		"CallsOf, of one":     func() []impl.Call { got, _ := impl.CallsOf(p, db, atom(2, 1, varX)); return got },
		"CallLeads":           func() []impl.Call { got, _ := impl.CallLeads(p, db, from); return got },
		"CallLeads, of more":  func() []impl.Call { got, _ := impl.CallLeads(p, db, call(1, -1)); return got },
		"CallOf":              func() []impl.Call { return []impl.Call{impl.CallOf(ask, nothing())} },
		"CallOf of constants": func() []impl.Call { return []impl.Call{impl.CallOf(roomyAtom(atom(4, 1, 2)), nothing())} },
	}
	for name, list := range lists {
		checkCallListsApart(t, name, list)
		if !unchanged() {
			t.Fatalf("writing to %s changes an argument", name)
		}
	}
	bind := roomyNumbers([]int{1, 2, 3, 4})
	c := impl.CallOf(atom(3, varW, varX, varY, varZ), bind)
	fill(c.Args[:cap(c.Args)])
	if !slices.Equal(bind[:cap(bind)], []int{1, 2, 3, 4, 0, 0, 0}) {
		t.Error("writing to CallOf changes what variables have")
	}
	checkResultsStay(t, p, db, ask, from)
}

// checkResultsStay writes to all arguments, and checks that this changes no result.
func checkResultsStay(t *testing.T, p impl.Program, db []impl.Fact, ask impl.Atom, from impl.Call) {
	t.Helper()
	calls, _ := impl.CallsOf(p, db, ask)
	leads, _ := impl.CallLeads(p, db, from)
	answers, _ := impl.TableAnswers(p, db, ask)
	given, _ := impl.TableAnswers(p, db, atom(4, 3, varX))
	edges, _ := impl.CallAnswers(p, db, call(2, 1, -1))
	own := impl.CallOf(ask, nothing())
	for _, r := range p.Rules {
		scribbleRule(r)
	}
	for _, args := range [][]int{p.Arity, ask.Args, from.Args} {
		fill(args[:cap(args)])
	}
	scribble(db)
	if !sameCalls(calls, []impl.Call{call(4, 0, -1), call(4, 1, -1), call(4, 2, -1)}) || !sameCalls(leads, []impl.Call{call(4, 1, -1)}) || !sameCall(own, call(4, 0, -1)) {
		t.Error("writing to an argument changes calls")
	}
	if !sameFacts(answers, []impl.Fact{fact(4, 0, 0), fact(4, 0, 1), fact(4, 0, 2)}) || !sameFacts(given, []impl.Fact{fact(4, 3, 5)}) || !sameFacts(edges, []impl.Fact{fact(2, 1, 0), fact(2, 1, 2)}) {
		t.Error("writing to an argument changes answers")
	}
}

// checkCallListsApart writes to what a call returns, and checks that this changes no other call of it, and no other result.
func checkCallListsApart(t *testing.T, name string, list func() []impl.Call) {
	t.Helper()
	rows := func() [][]int {
		var out [][]int
		for _, c := range list() {
			out = append(out, c.Args)
		}
		return out
	}
	if len(rows()) == 0 {
		t.Errorf("%s is nothing here", name)
	}
	checkApart(t, name, rows, -77)
	checkNumbersApart(t, rows())
	first, second := list(), list()
	want := slices.Clone(second)
	clear(first[:cap(first)])
	if !sameCalls(second, want) || !sameCalls(list(), want) {
		t.Errorf("%s: two results share memory", name)
	}
}

func unknownPlaces(c impl.Call) int {
	return len(slices.DeleteFunc(slices.Clone(c.Args), func(known int) bool { return known >= 0 }))
}

// everyCall returns all calls of growPlaces.
func everyCall() []impl.Call {
	var all []impl.Call
	for pred, places := range growPlaces {
		for n := range power(7, places) {
			c := call(pred)
			for _, digit := range digits(n, 7, places) {
				c.Args = append(c.Args, digit-1)
			}
			all = append(all, c)
		}
	}
	return all
}

func plainCallOf(a impl.Atom, bind []int) impl.Call {
	c := call(a.Pred)
	for _, term := range a.Args {
		if term < 0 {
			term = bind[-1-term]
		}
		c.Args = append(c.Args, term)
	}
	return c
}

// plainCallModel finds calls by what all rules say, trying all that the variables of the atoms ahead may have.
type plainCallModel struct {
	p     impl.Program
	db    []impl.Fact
	least []impl.Fact
	found map[string][]impl.Call // for each call that has been asked for those to which it leads
}

func newPlainCalls(p impl.Program, db []impl.Fact) *plainCallModel {
	rounds := plainRounds(p, db)
	return &plainCallModel{p: p, db: db, least: rounds[len(rounds)-1], found: map[string][]impl.Call{}}
}

func (model *plainCallModel) answers(c impl.Call) []impl.Fact {
	var out []impl.Fact
	for _, f := range model.least {
		if f.Pred == c.Pred && plainEnter(impl.Atom(f), c) != nil {
			out = append(out, f)
		}
	}
	return out
}

func (model *plainCallModel) calls(ask impl.Atom) []impl.Call {
	out := []impl.Call{plainCallOf(ask, nothing())}
	for i := 0; i < len(out); i++ {
		out = withCalls(out, model.leads(out[i]))
	}
	return out
}

func (model *plainCallModel) leads(c impl.Call) []impl.Call {
	key := string(rune('a' + c.Pred))
	for _, known := range c.Args {
		key += string(rune('1' + known))
	}
	if out, ok := model.found[key]; ok {
		return out
	}
	var out []impl.Call
	for _, r := range model.p.Rules {
		if r.Head.Pred != c.Pred {
			continue
		}
		begin := plainEnter(r.Head, c)
		if begin == nil {
			continue
		}
		var ahead []impl.Lit
		for _, l := range r.Body {
			if l.Kind == impl.LitYes && isHead(model.p, l.Atom.Pred) {
				out = withCalls(out, model.asked(ahead, begin, l.Atom))
			}
			if l.Kind == impl.LitYes {
				ahead = append(ahead, impl.Lit{Atom: plainPut(l.Atom, begin)})
			}
		}
	}
	model.found[key] = out
	return out
}

// asked returns the calls of an atom for all that makes those ahead of it facts, besides what variables have at first.
func (model *plainCallModel) asked(ahead []impl.Lit, begin []int, a impl.Atom) []impl.Call {
	var binds [][]int
	for _, bind := range plainSolutions(model.least, ahead) {
		for v, c := range begin {
			bind[v] = max(bind[v], c)
		}
		binds = append(binds, bind)
	}
	slices.SortFunc(binds, slices.Compare[[]int])
	var out []impl.Call
	for _, bind := range binds {
		out = append(out, plainCallOf(a, bind))
	}
	return out
}

// plainEnter returns what variables have when a head has the known constants of a call, or nil if it cannot have them.
func plainEnter(head impl.Atom, c impl.Call) []int {
	var m impl.Mode
	for _, known := range c.Args {
		m.Known = append(m.Known, known >= 0)
	}
	return plainMatch(atom(0, knownArgs(m, head.Args)...), fact(0, knownArgs(m, c.Args)...), nothing())
}

// plainPut returns an atom with what its variables have in place of those that have something.
func plainPut(a impl.Atom, bind []int) impl.Atom {
	out := atom(a.Pred)
	for _, term := range a.Args {
		if term < 0 && bind[-1-term] >= 0 {
			term = bind[-1-term]
		}
		out.Args = append(out.Args, term)
	}
	return out
}

// withCalls returns calls, and behind them those of more that are not there yet.
func withCalls(list, more []impl.Call) []impl.Call {
	for _, c := range more {
		if !slices.ContainsFunc(list, func(other impl.Call) bool { return sameCall(c, other) }) {
			list = append(list, c)
		}
	}
	return list
}
