package tests

import (
	"math"
	"slices"
	"testing"

	"loop.example/wholerules/impl"
)

func TestArityOk(t *testing.T) {
	cases := []struct {
		name  string
		arity []int
		want  bool
	}{
		{"nil", nil, true},
		{"empty", []int{}, true},
		{"each number of places", []int{0, 1, 2}, true},
		{"as many predicates as there may be", make([]int, impl.MaxPreds), true},
		{"one predicate too many", make([]int, impl.MaxPreds+1), false},
		{"below 0", []int{0, -1}, false},
		{"too many places, first", []int{3, 0}, false},
		{"too many places, last", []int{2, 1, 3}, false},
		{"least number", []int{math.MinInt}, false},
		{"greatest number", []int{math.MaxInt}, false},
	}
	for _, c := range cases {
		if got := impl.ArityOk(c.arity); got != c.want {
			t.Errorf("%s: ArityOk(%v) = %v", c.name, c.arity, got)
		}
	}
}

func TestFactOk(t *testing.T) {
	arity := []int{0, 1, 2}
	cases := []struct {
		name  string
		arity []int
		fact  impl.Fact
		want  bool
	}{
		{"no places, nil", arity, impl.Fact{Pred: 0}, true},
		{"no places, empty", arity, impl.Fact{Pred: 0, Args: []int{}}, true},
		{"least constant", arity, fact(1, 0), true},
		{"greatest constant", arity, fact(1, impl.MaxConst), true},
		{"two places", arity, fact(2, 5, 0), true},
		{"an argument too many for no places", arity, fact(0, 0), false},
		{"too few", arity, fact(1), false},
		{"too few of two", arity, fact(2, 1), false},
		{"too many", arity, fact(2, 1, 2, 3), false},
		{"constant below 0", arity, fact(1, -1), false},
		{"constant too great", arity, fact(1, 6), false},
		{"second constant below 0", arity, fact(2, 0, -1), false},
		{"second constant too great", arity, fact(2, 0, 6), false},
		{"predicate below 0", arity, fact(-1), false},
		{"predicate past the end", arity, fact(3), false},
		{"no predicates", nil, fact(0), false},
		{"a later predicate is none", []int{1, 3}, fact(0, 1), false},
		{"too many predicates", make([]int, impl.MaxPreds+1), fact(0), false},
		{"as many places as there may not be", []int{3}, fact(0, 1, 1, 1), false},
	}
	for _, c := range cases {
		if got := impl.FactOk(c.arity, c.fact); got != c.want {
			t.Errorf("%s: FactOk(%v, %v) = %v", c.name, c.arity, c.fact, got)
		}
	}
}

func TestFactOrder(t *testing.T) {
	ascending := []impl.Fact{
		fact(math.MinInt, 9),
		fact(-1, 0),
		fact(0),
		fact(0, math.MinInt),
		fact(0, -1),
		fact(0, 0),
		fact(0, 0, 0),
		fact(0, 0, 0, 0),
		fact(0, 0, 1),
		fact(0, 1),
		fact(0, 1, 0),
		fact(0, math.MaxInt),
		fact(1),
		fact(1, 0),
		fact(math.MaxInt),
	}
	for i, a := range ascending {
		for j, b := range ascending {
			want := 0
			if i < j {
				want = -1
			} else if i > j {
				want = 1
			}
			if got := impl.FactOrder(a, b); got != want {
				t.Errorf("FactOrder(%v, %v) = %d, want %d", a, b, got, want)
			}
		}
	}
	if impl.FactOrder(impl.Fact{Pred: 2}, impl.Fact{Pred: 2, Args: []int{}}) != 0 {
		t.Error("nil and empty Args differ")
	}
}

func TestFactsOk(t *testing.T) {
	arity := []int{0, 1, 2}
	cases := []struct {
		name  string
		arity []int
		list  []impl.Fact
		want  bool
	}{
		{"nil", arity, nil, true},
		{"empty", arity, []impl.Fact{}, true},
		{"no facts, no predicates", nil, nil, true},
		{"ascending", arity, []impl.Fact{fact(0), fact(1, 0), fact(1, 5), fact(2, 0, 3), fact(2, 1, 0)}, true},
		{"twice", arity, []impl.Fact{fact(1, 0), fact(1, 0)}, false},
		{"twice, no places", arity, []impl.Fact{{Pred: 0}, {Pred: 0, Args: []int{}}}, false},
		{"out of order by predicate", arity, []impl.Fact{fact(1, 0), fact(0)}, false},
		{"out of order by constant", arity, []impl.Fact{fact(0), fact(2, 0, 1), fact(2, 0, 0)}, false},
		{"first is no fact", arity, []impl.Fact{fact(-1), fact(0)}, false},
		{"last is no fact", arity, []impl.Fact{fact(0), fact(1, 6)}, false},
		{"one alone is no fact", arity, []impl.Fact{fact(1)}, false},
		{"no facts, wrong places", []int{3}, nil, false},
		{"no facts, too many predicates", make([]int, impl.MaxPreds+1), nil, false},
		{"good facts, wrong places of another", []int{0, -1}, []impl.Fact{fact(0)}, false},
	}
	for _, c := range cases {
		if got := impl.FactsOk(c.arity, c.list); got != c.want {
			t.Errorf("%s: FactsOk(%v, %v) = %v", c.name, c.arity, c.list, got)
		}
	}
}

func TestFactsHas(t *testing.T) {
	for _, list := range factLists(4) {
		for _, f := range fewFacts() {
			if got, want := impl.FactsHas(list, f), plainHas(list, f); got != want {
				t.Fatalf("FactsHas(%v, %v) = %v", list, f, got)
			}
		}
	}
	long := []impl.Fact{fact(5, 1), fact(3, 2), fact(4), fact(3, 2), fact(0), fact(1)}
	for _, f := range long {
		if !impl.FactsHas(long, f) {
			t.Errorf("FactsHas does not find %v out of order", f)
		}
	}
	if impl.FactsHas(long, fact(3)) || impl.FactsHas(long, fact(3, 2, 0)) || impl.FactsHas(nil, fact(0)) {
		t.Error("FactsHas finds a fact that is not there")
	}
}

func TestFactsWith(t *testing.T) {
	cases := []struct {
		name string
		list []impl.Fact
		fact impl.Fact
		want []impl.Fact
	}{
		{"nil", nil, fact(0), []impl.Fact{fact(0)}},
		{"first", []impl.Fact{fact(1), fact(2)}, fact(0), []impl.Fact{fact(0), fact(1), fact(2)}},
		{"between", []impl.Fact{fact(0), fact(2)}, fact(1), []impl.Fact{fact(0), fact(1), fact(2)}},
		{"last", []impl.Fact{fact(0), fact(1)}, fact(2), []impl.Fact{fact(0), fact(1), fact(2)}},
		{"there already", []impl.Fact{fact(0), fact(1)}, fact(1), []impl.Fact{fact(0), fact(1)}},
		{"twice", []impl.Fact{fact(1), fact(1), fact(2)}, fact(1), []impl.Fact{fact(1), fact(2)}},
		{"out of order", []impl.Fact{fact(3), fact(0), fact(4)}, fact(2), []impl.Fact{fact(2), fact(3), fact(0), fact(4)}},
		{"behind all, out of order", []impl.Fact{fact(3), fact(0)}, fact(4), []impl.Fact{fact(3), fact(0), fact(4)}},
		{"same ones behind a greater one", []impl.Fact{fact(3), fact(1), fact(0), fact(1)}, fact(1), []impl.Fact{fact(1), fact(3), fact(0)}},
		{"others stay twice", []impl.Fact{fact(2), fact(2), fact(0), fact(0)}, fact(1), []impl.Fact{fact(1), fact(2), fact(2), fact(0), fact(0)}},
	}
	for _, c := range cases {
		if got := impl.FactsWith(c.list, c.fact); !sameFacts(got, c.want) {
			t.Errorf("%s: FactsWith(%v, %v) = %v", c.name, c.list, c.fact, got)
		}
	}
}

func TestFactsWithEveryShortList(t *testing.T) {
	for _, list := range factLists(4) {
		for _, f := range fewFacts() {
			got, want := impl.FactsWith(list, f), plainWith(list, f)
			if !sameFacts(got, want) {
				t.Fatalf("FactsWith(%v, %v) = %v, want %v", list, f, got, want)
			}
			if ascending(list) && !ascending(got) {
				t.Fatalf("FactsWith(%v, %v) = %v is out of order", list, f, got)
			}
		}
	}
}

// The three functions of two lists are held against membership alone, so that each has just what a set has.
func TestSetsOfEveryTwoShortLists(t *testing.T) {
	lists := factLists(3)
	for _, a := range lists {
		for _, b := range lists {
			checkSet(t, "FactsEither", a, b, impl.FactsEither(a, b), func(f impl.Fact) bool { return plainHas(a, f) || plainHas(b, f) })
			checkSet(t, "FactsBoth", a, b, impl.FactsBoth(a, b), func(f impl.Fact) bool { return plainHas(a, f) && plainHas(b, f) })
			checkSet(t, "FactsLess", a, b, impl.FactsLess(a, b), func(f impl.Fact) bool { return plainHas(a, f) && !plainHas(b, f) })
		}
	}
}

func TestSetRules(t *testing.T) {
	all := slices.Concat(impl.AllFacts(7, 2), impl.AllFacts(3, 1), impl.AllFacts(7, 0))
	a := slices.Concat(all[:30], all[10:25])
	b := slices.Concat(all[20:], all[:5])
	either, both := impl.FactsEither(a, b), impl.FactsBoth(a, b)
	if !sameFacts(either, impl.FactsEither(b, a)) || !sameFacts(both, impl.FactsBoth(b, a)) {
		t.Error("the order of the lists matters")
	}
	if !sameFacts(either, impl.FactsEither(impl.FactsLess(a, b), b)) {
		t.Error("a without b, and b, are not a and b")
	}
	if !sameFacts(both, impl.FactsLess(a, impl.FactsLess(a, b))) {
		t.Error("what is in both is not a without what is in a alone")
	}
	if len(either) != len(all) || len(both) != 15 {
		t.Errorf("%d facts in one of both, %d in both", len(either), len(both))
	}
	if len(impl.FactsLess(a, a)) != 0 || len(impl.FactsBoth(a, nil)) != 0 || !sameFacts(impl.FactsEither(a, nil), impl.FactsLess(a, nil)) {
		t.Error("a with itself, or with nothing")
	}
}

func TestFactsOf(t *testing.T) {
	list := []impl.Fact{fact(2, 5), fact(0), fact(2, 1), fact(-1, 7), fact(2, 5), fact(1), fact(2)}
	cases := []struct {
		pred int
		want []impl.Fact
	}{
		{2, []impl.Fact{fact(2, 5), fact(2, 1), fact(2, 5), fact(2)}},
		{0, []impl.Fact{fact(0)}},
		{-1, []impl.Fact{fact(-1, 7)}},
		{3, nil},
	}
	for _, c := range cases {
		if got := impl.FactsOf(list, c.pred); !sameFacts(got, c.want) {
			t.Errorf("FactsOf(.., %d) = %v", c.pred, got)
		}
	}
	if len(impl.FactsOf(nil, 0)) != 0 {
		t.Error("FactsOf of no facts")
	}
}

func TestAllFacts(t *testing.T) {
	counts := []int{1, 6, 36}
	for pred := range impl.MaxPreds {
		for places, count := range counts {
			arity := make([]int, impl.MaxPreds)
			arity[pred] = places
			all := impl.AllFacts(pred, places)
			if len(all) != count || !impl.FactsOk(arity, all) || len(impl.FactsOf(all, pred)) != count {
				t.Errorf("AllFacts(%d, %d) = %v", pred, places, all)
			}
		}
	}
	want := []impl.Fact{fact(0, 0), fact(0, 1), fact(0, 2), fact(0, 3), fact(0, 4), fact(0, 5)}
	if got := impl.AllFacts(0, 1); !sameFacts(got, want) {
		t.Errorf("AllFacts(0, 1) = %v", got)
	}
	none := [][2]int{{-1, 0}, {24, 1}, {math.MinInt, 2}, {math.MaxInt, 2}, {0, -1}, {0, 3}, {0, math.MinInt}, {0, math.MaxInt}, {-1, -1}}
	for _, n := range none {
		if got := impl.AllFacts(n[0], n[1]); len(got) != 0 {
			t.Errorf("AllFacts(%d, %d) = %v", n[0], n[1], got)
		}
	}
}

func TestEmptyIsNil(t *testing.T) {
	withNil := []impl.Fact{{Pred: 0}, {Pred: 1}}
	withEmpty := []impl.Fact{{Pred: 0, Args: []int{}}, {Pred: 1, Args: []int{}}}
	for name, call := range listCalls() {
		if !sameFacts(call(nil, withNil), call([]impl.Fact{}, withEmpty)) {
			t.Errorf("%s: nil and empty differ in the first list", name)
		}
		if !sameFacts(call(withNil, nil), call(withEmpty, []impl.Fact{})) {
			t.Errorf("%s: nil and empty differ in the second list", name)
		}
		if !sameFacts(call(withNil, withEmpty), call(withEmpty, withNil)) {
			t.Errorf("%s: nil and empty Args differ", name)
		}
	}
}

func TestArgumentsAreNotChanged(t *testing.T) {
	for name, call := range listCalls() {
		for _, pair := range memoryPairs() {
			a, b := roomy(pair[0]), roomy(pair[1])
			wantA, wantB := deepCopy(whole(a)), deepCopy(whole(b))
			call(a, b)
			if !sameFacts(whole(a), wantA) || !sameFacts(whole(b), wantB) {
				t.Errorf("%s(%v, %v) changes an argument", name, a, b)
			}
		}
	}
}

func TestResultsShareNothing(t *testing.T) {
	for name, call := range listCalls() {
		for _, pair := range memoryPairs() {
			a, b := roomy(pair[0]), roomy(pair[1])
			first, second := call(a, b), call(a, b)
			want := deepCopy(first)
			wantA, wantB := deepCopy(whole(a)), deepCopy(whole(b))
			scribble(first)
			if !sameFacts(whole(a), wantA) || !sameFacts(whole(b), wantB) {
				t.Errorf("%s(%v, %v): writing to the result changes an argument", name, a, b)
			}
			if !sameFacts(second, want) {
				t.Errorf("%s(%v, %v): writing to one result changes another one", name, a, b)
			}
			scribble(a)
			scribble(b)
			if !sameFacts(second, want) {
				t.Errorf("%s: writing to an argument changes the result", name)
			}
		}
	}
}

func TestFactsOfAResultShareNothing(t *testing.T) {
	for name, call := range listCalls() {
		for _, pair := range memoryPairs() {
			for i := range call(pair[0], pair[1]) {
				got := call(pair[0], pair[1])
				want := deepCopy(got)
				fill(got[i].Args[:cap(got[i].Args)])
				for j := range got {
					if j != i && !sameFacts(got[j:j+1], want[j:j+1]) {
						t.Fatalf("%s(%v, %v): the facts %d and %d share memory", name, pair[0], pair[1], i, j)
					}
				}
			}
		}
	}
}

// listCalls returns every function of the chapter that returns facts, as one of two lists.
func listCalls() map[string]func(a, b []impl.Fact) []impl.Fact {
	first := func(list []impl.Fact) impl.Fact {
		if len(list) == 0 {
			return impl.Fact{}
		}
		return list[0]
	}
	return map[string]func(a, b []impl.Fact) []impl.Fact{
		"FactsEither": impl.FactsEither,
		"FactsBoth":   impl.FactsBoth,
		"FactsLess":   impl.FactsLess,
		"FactsWith":   func(a, b []impl.Fact) []impl.Fact { return impl.FactsWith(a, first(b)) },
		"FactsOf":     func(a, b []impl.Fact) []impl.Fact { return impl.FactsOf(a, first(b).Pred) },
		"AllFacts":    func(a, b []impl.Fact) []impl.Fact { return impl.AllFacts(3, min(len(a), 2)) },
	}
}

// memoryPairs returns two lists each for which the functions return facts of either, in and out of order.
func memoryPairs() [][2][]impl.Fact {
	ordered := []impl.Fact{fact(0), fact(1, 1), fact(1, 2), fact(2, 0, 5)}
	mixed := []impl.Fact{fact(1, 2), fact(0), fact(2, 3, 3), fact(1, 2), fact(0)}
	return [][2][]impl.Fact{
		{ordered, mixed},
		{mixed, ordered},
		{ordered, ordered},
		{mixed, nil},
		{nil, mixed},
		{ordered, []impl.Fact{fact(1, 4), fact(0, 2)}},
		{mixed, []impl.Fact{fact(9, 1)}},
	}
}

// checkSet checks that facts are in order, each once, and just those of two lists for which keep is true.
func checkSet(t *testing.T, name string, a, b, got []impl.Fact, keep func(impl.Fact) bool) {
	t.Helper()
	if !ascending(got) {
		t.Fatalf("%s(%v, %v) = %v is not in order, each once", name, a, b, got)
	}
	for _, f := range slices.Concat(fewFacts(), got) {
		if plainHas(got, f) != keep(f) {
			t.Fatalf("%s(%v, %v) = %v: %v", name, a, b, got, f)
		}
	}
}

func fact(pred int, args ...int) impl.Fact {
	return impl.Fact{Pred: pred, Args: args}
}

// fewFacts returns facts with and without places, ones of no predicate, and ones that differ in how many places they have alone.
func fewFacts() []impl.Fact {
	return []impl.Fact{fact(1), fact(-3, 9), fact(1, 2), fact(0, 4), fact(1, 2, 0)}
}

// factLists returns all lists of fewFacts up to a length, in every order, with facts that come again.
func factLists(most int) [][]impl.Fact {
	lists := [][]impl.Fact{nil}
	latest := lists
	for range most {
		var longer [][]impl.Fact
		for _, list := range latest {
			for _, f := range fewFacts() {
				longer = append(longer, slices.Concat(list, []impl.Fact{f}))
			}
		}
		lists = append(lists, longer...)
		latest = longer
	}
	return lists
}

// ahead tells the order of two facts without the package's own one.
func ahead(a, b impl.Fact) bool {
	if a.Pred != b.Pred {
		return a.Pred < b.Pred
	}
	for i := 0; i < len(a.Args) && i < len(b.Args); i++ {
		if a.Args[i] != b.Args[i] {
			return a.Args[i] < b.Args[i]
		}
	}
	return len(a.Args) < len(b.Args)
}

func ascending(list []impl.Fact) bool {
	for i := 1; i < len(list); i++ {
		if !ahead(list[i-1], list[i]) {
			return false
		}
	}
	return true
}

func sameFact(a, b impl.Fact) bool {
	return a.Pred == b.Pred && slices.Equal(a.Args, b.Args)
}

func sameFacts(a, b []impl.Fact) bool {
	return slices.EqualFunc(a, b, sameFact)
}

func plainHas(list []impl.Fact, f impl.Fact) bool {
	for _, g := range list {
		if sameFact(f, g) {
			return true
		}
	}
	return false
}

// plainWith takes out the same facts, and then puts the fact ahead of the first one that is behind it.
func plainWith(list []impl.Fact, f impl.Fact) []impl.Fact {
	at := len(list)
	for i := len(list) - 1; i >= 0; i-- {
		if !ahead(list[i], f) {
			at = i
		}
	}
	var out []impl.Fact
	for i := 0; i <= len(list); i++ {
		if i == at {
			out = append(out, f)
		}
		if i < len(list) && !sameFact(list[i], f) {
			out = append(out, list[i])
		}
	}
	return out
}

// roomy returns a copy of facts with capacity behind the list and behind all Args, so that writing there is seen.
func roomy(list []impl.Fact) []impl.Fact {
	out := make([]impl.Fact, 0, len(list)+3)
	for _, f := range list {
		args := make([]int, 0, len(f.Args)+3)
		out = append(out, impl.Fact{Pred: f.Pred, Args: append(args, f.Args...)})
	}
	return out
}

// whole returns facts with all unused capacity, of the list and of their Args.
func whole(list []impl.Fact) []impl.Fact {
	var out []impl.Fact
	for _, f := range list[:cap(list)] {
		out = append(out, impl.Fact{Pred: f.Pred, Args: f.Args[:cap(f.Args)]})
	}
	return out
}

func deepCopy(list []impl.Fact) []impl.Fact {
	var out []impl.Fact
	for _, f := range list {
		out = append(out, impl.Fact{Pred: f.Pred, Args: append([]int{}, f.Args...)})
	}
	return out
}

// scribble overwrites facts, and all unused capacity.
func scribble(list []impl.Fact) {
	list = list[:cap(list)]
	for i := range list {
		fill(list[i].Args[:cap(list[i].Args)])
		list[i] = impl.Fact{Pred: -77, Args: []int{-77}}
	}
}

func fill(args []int) {
	for i := range args {
		args[i] = -77
	}
}
