package tests

import (
	"math"
	"slices"
	"testing"

	"loop.example/wholerules/impl"
)

func linkYes(from, to int) impl.Link {
	return impl.Link{From: from, To: to}
}

func linkNo(from, to int) impl.Link {
	return impl.Link{From: from, To: to, No: true}
}

// linked returns a program of predicates without places whose rules ask so; links of one predicate share a rule as long as it has room.
func linked(preds int, links ...impl.Link) impl.Program {
	p := programWith(make([]int, preds))
	for _, link := range links {
		l := yes(link.To)
		if link.No {
			l = no(link.To)
		}
		last := len(p.Rules) - 1
		if last >= 0 && p.Rules[last].Head.Pred == link.From && len(p.Rules[last].Body) < impl.MaxBody {
			p.Rules[last].Body = append(p.Rules[last].Body, l)
		} else {
			p.Rules = append(p.Rules, rule(atom(link.From), l))
		}
	}
	return p
}

func TestLinksOf(t *testing.T) {
	cases := []struct {
		name string
		p    impl.Program
		want []impl.Link
	}{
		{"nothing at all", impl.Program{}, nil},
		{"no rules", growing(), nil},
		{"rules without bodies", growing(rule(atom(0)), rule(atom(1, 3))), nil},
		{"comparisons do not ask for the predicate 0", growing(rule(atom(3, 0), same(1, 1), less(1, 2)), rule(atom(1, varW), yes(3, varW), less(varW, 2))), []impl.Link{linkYes(1, 3)}},
		{"of the document", linked(4, linkYes(2, 0), linkYes(3, 0), linkNo(3, 2)), []impl.Link{linkYes(2, 0), linkYes(3, 0), linkNo(3, 2)}},
		{"itself", growing(wayRules()...), []impl.Link{linkYes(4, 2), linkYes(4, 4)}},
		{"not itself", linked(1, linkNo(0, 0)), []impl.Link{linkNo(0, 0)}},
		{"itself and not itself", linked(2, linkNo(1, 1), linkYes(1, 1)), []impl.Link{linkYes(1, 1), linkNo(1, 1)}},
		{"both kinds in one body", growing(rule(atom(3, varW), no(1, 2), yes(1, varW))), []impl.Link{linkYes(3, 1), linkNo(3, 1)}},
		{"both kinds in two rules", growing(rule(atom(3, 1), no(1, 2)), rule(atom(3, varX), yes(1, varX))), []impl.Link{linkYes(3, 1), linkNo(3, 1)}},
		{"many times in one body", growing(rule(atom(3, varW), yes(1, varW), yes(1, 3), no(0), no(0))), []impl.Link{linkNo(3, 0), linkYes(3, 1)}},
		{"many times in several rules", growing(rule(atom(3, 2), yes(0)), rule(atom(3, 3), yes(0)), rule(atom(3, 2), yes(0))), []impl.Link{linkYes(3, 0)}},
		{"each other", linked(2, linkYes(0, 1), linkNo(1, 0)), []impl.Link{linkYes(0, 1), linkNo(1, 0)}},
		{"ordered, whatever the order of the rules", linked(4, linkNo(3, 2), linkYes(3, 0), linkNo(1, 3), linkYes(2, 2), linkYes(1, 0), linkNo(0, 2), linkYes(1, 3), linkYes(3, 3)),
			[]impl.Link{linkNo(0, 2), linkYes(1, 0), linkYes(1, 3), linkNo(1, 3), linkYes(2, 2), linkYes(3, 0), linkNo(3, 2), linkYes(3, 3)}},
		{"the last of all predicates", linked(24, linkYes(23, 23), linkNo(23, 0), linkYes(0, 23)), []impl.Link{linkYes(0, 23), linkNo(23, 0), linkYes(23, 23)}},
	}
	for _, c := range cases {
		if got := impl.LinksOf(c.p); !slices.Equal(got, c.want) {
			t.Errorf("%s: LinksOf = %v, want %v", c.name, got, c.want)
		}
	}
}

// strataCases are programs with what each of their predicates asks at once or over others, their groups, and their layers, nil if there are none.
func strataCases() []strataCase {
	return []strataCase{
		{"nothing at all", impl.Program{}, nil, nil, []int{}},
		{"one predicate", linked(1), [][]int{{}}, [][]int{{0}}, []int{0}},
		{"no rules", growing(), [][]int{{}, {}, {}, {}, {}}, [][]int{{0}, {1}, {2}, {3}, {4}}, []int{0, 0, 0, 0, 0}},
		{"rules that ask nothing", growing(rule(atom(0)), rule(atom(3, 0), same(1, 2))), [][]int{{}, {}, {}, {}, {}}, [][]int{{0}, {1}, {2}, {3}, {4}}, []int{0, 0, 0, 0, 0}},
		{"of the document", linked(4, linkYes(2, 0), linkYes(3, 0), linkNo(3, 2)), [][]int{{}, {}, {0}, {0, 2}}, [][]int{{0}, {1}, {2}, {3}}, []int{0, 0, 0, 1}},
		{"of the document, changed", linked(4, linkYes(2, 0), linkYes(2, 3), linkYes(3, 0), linkNo(3, 2)), [][]int{{}, {}, {0, 2, 3}, {0, 2, 3}}, [][]int{{0}, {1}, {2, 3}}, nil},
		{"a way over edges", growing(wayRules()...), [][]int{{}, {}, {}, {}, {2, 4}}, [][]int{{0}, {1}, {2}, {3}, {4}}, []int{0, 0, 0, 0, 0}},
		{"itself", linked(2, linkYes(0, 0)), [][]int{{0}, {}}, [][]int{{0}, {1}}, []int{0, 0}},
		{"not itself", linked(2, linkNo(1, 1)), [][]int{{}, {1}}, [][]int{{0}, {1}}, nil},
		{"itself and not itself", linked(1, linkYes(0, 0), linkNo(0, 0)), [][]int{{0}}, [][]int{{0}}, nil},
		{"both kinds for one predicate", linked(2, linkYes(0, 1), linkNo(0, 1)), [][]int{{1}, {}}, [][]int{{1}, {0}}, []int{1, 0}},
		{"a chain backwards", linked(4, linkYes(0, 1), linkYes(1, 2), linkYes(2, 3)), [][]int{{1, 2, 3}, {2, 3}, {3}, {}}, [][]int{{3}, {2}, {1}, {0}}, []int{0, 0, 0, 0}},
		{"a chain of denials backwards", linked(4, linkNo(0, 1), linkNo(1, 2), linkNo(2, 3)), [][]int{{1, 2, 3}, {2, 3}, {3}, {}}, [][]int{{3}, {2}, {1}, {0}}, []int{3, 2, 1, 0}},
		{"two that ask each other", linked(3, linkYes(0, 2), linkYes(2, 0)), [][]int{{0, 2}, {}, {0, 2}}, [][]int{{0, 2}, {1}}, []int{0, 0, 0}},
		{"two of which one denies", linked(2, linkYes(0, 1), linkNo(1, 0)), [][]int{{0, 1}, {0, 1}}, [][]int{{0, 1}}, nil},
		{"two of which one asks and denies", linked(2, linkYes(0, 1), linkYes(1, 0), linkNo(1, 0)), [][]int{{0, 1}, {0, 1}}, [][]int{{0, 1}}, nil},
		{"what is denied asks over others", linked(4, linkNo(0, 1), linkYes(1, 2), linkYes(2, 3), linkYes(3, 0)),
			[][]int{{0, 1, 2, 3}, {0, 1, 2, 3}, {0, 1, 2, 3}, {0, 1, 2, 3}}, [][]int{{0, 1, 2, 3}}, nil},
		{"a denial out of a group, and one of it", linked(5, linkYes(1, 2), linkYes(2, 1), linkNo(2, 4), linkNo(0, 1), linkYes(3, 0)),
			[][]int{{1, 2, 4}, {1, 2, 4}, {1, 2, 4}, {0, 1, 2, 4}, {}}, [][]int{{4}, {1, 2}, {0}, {3}}, []int{2, 1, 1, 2, 0}},
		{"a group has the greatest layer that one of it needs", linked(5, linkYes(0, 1), linkYes(1, 2), linkYes(2, 0), linkNo(2, 3), linkNo(3, 4), linkNo(0, 4)),
			[][]int{{0, 1, 2, 3, 4}, {0, 1, 2, 3, 4}, {0, 1, 2, 3, 4}, {4}, {}}, [][]int{{4}, {3}, {0, 1, 2}}, []int{2, 2, 2, 1, 0}},
		{"the longest way to a layer", linked(5, linkNo(4, 0), linkNo(4, 3), linkYes(4, 1), linkNo(3, 2), linkYes(2, 1), linkNo(1, 0)),
			[][]int{{}, {0}, {0, 1}, {0, 1, 2}, {0, 1, 2, 3}}, [][]int{{0}, {1}, {2}, {3}, {4}}, []int{0, 1, 1, 2, 3}},
		{"denials elsewhere than in a group do not matter to it", linked(3, linkNo(0, 1), linkYes(1, 2), linkYes(2, 1)), [][]int{{1, 2}, {1, 2}, {1, 2}}, [][]int{{1, 2}, {0}}, []int{1, 0, 0}},
		{"who becomes ready comes ahead of greater ones", linked(5, linkYes(0, 4), linkYes(4, 1), linkYes(1, 4), linkYes(3, 0)),
			[][]int{{1, 4}, {1, 4}, {}, {0, 1, 4}, {1, 4}}, [][]int{{1, 4}, {0}, {2}, {3}}, []int{0, 0, 0, 0, 0}},
		{"a group waits for what its last one asks", linked(4, linkYes(0, 3), linkYes(3, 0), linkYes(3, 2)), [][]int{{0, 2, 3}, {}, {}, {0, 2, 3}}, [][]int{{1}, {2}, {0, 3}}, []int{0, 0, 0, 0}},
		{"groups go by their first predicates", linked(6, linkYes(0, 5), linkYes(5, 0), linkYes(1, 4), linkYes(4, 1), linkYes(2, 3), linkYes(3, 2)),
			[][]int{{0, 5}, {1, 4}, {2, 3}, {2, 3}, {1, 4}, {0, 5}}, [][]int{{0, 5}, {1, 4}, {2, 3}}, []int{0, 0, 0, 0, 0, 0}},
		{"two rings that meet", linked(5, linkYes(0, 1), linkYes(1, 2), linkYes(2, 0), linkYes(2, 3), linkYes(3, 4), linkYes(4, 2)),
			[][]int{{0, 1, 2, 3, 4}, {0, 1, 2, 3, 4}, {0, 1, 2, 3, 4}, {0, 1, 2, 3, 4}, {0, 1, 2, 3, 4}}, [][]int{{0, 1, 2, 3, 4}}, []int{0, 0, 0, 0, 0}},
		{"a ring within a ring that is found first", linked(4, linkYes(0, 1), linkYes(1, 2), linkYes(2, 1), linkYes(2, 3), linkYes(3, 0)),
			[][]int{{0, 1, 2, 3}, {0, 1, 2, 3}, {0, 1, 2, 3}, {0, 1, 2, 3}}, [][]int{{0, 1, 2, 3}}, []int{0, 0, 0, 0}},
		{"one that is asked twice", linked(4, linkYes(0, 1), linkNo(0, 2), linkYes(1, 3), linkYes(2, 3)), [][]int{{1, 2, 3}, {3}, {3}, {}}, [][]int{{3}, {1}, {2}, {0}}, []int{1, 0, 0, 0}},
	}
}

type strataCase struct {
	name   string
	p      impl.Program
	reach  [][]int
	groups [][]int
	layers []int
}

func TestReaches(t *testing.T) {
	for _, c := range strataCases() {
		if got := impl.Reaches(c.p); !slices.EqualFunc(got, rowsOf(c.reach), slices.Equal[[]bool]) {
			t.Errorf("%s: Reaches = %v, want %v", c.name, got, c.reach)
		}
		for pred, reach := range c.reach {
			if got := impl.Recursive(c.p, pred); got != slices.Contains(reach, pred) {
				t.Errorf("%s: Recursive(%d) = %v", c.name, pred, got)
			}
		}
		for _, pred := range []int{-1, -64, len(c.p.Arity), impl.MaxPreds, 64, math.MinInt, math.MaxInt} {
			if impl.Recursive(c.p, pred) {
				t.Errorf("%s: no predicate %d is recursive", c.name, pred)
			}
		}
	}
}

func TestGroupsOf(t *testing.T) {
	for _, c := range strataCases() {
		if got := impl.GroupsOf(c.p); !sameLists(got, c.groups) {
			t.Errorf("%s: GroupsOf = %v, want %v", c.name, got, c.groups)
		}
	}
}

func TestLayersOf(t *testing.T) {
	for _, c := range strataCases() {
		got, ok := impl.LayersOf(c.p)
		if ok != (c.layers != nil) || !slices.Equal(got, c.layers) {
			t.Errorf("%s: LayersOf = %v, %v, want %v", c.name, got, ok, c.layers)
		}
		if ok && !impl.LayersFit(c.p, got) {
			t.Errorf("%s: %v do not fit", c.name, got)
		}
	}
}

func TestLayersFit(t *testing.T) {
	p := linked(4, linkYes(2, 0), linkYes(3, 0), linkNo(3, 2))
	ring := linked(3, linkYes(0, 1), linkYes(1, 0), linkNo(2, 0))
	cases := []struct {
		name   string
		p      impl.Program
		layers []int
		want   bool
	}{
		{"of the document", p, []int{0, 0, 0, 1}, true},
		{"what is denied in the same layer", p, []int{0, 0, 0, 0}, false},
		{"what is denied in a greater layer", p, []int{0, 0, 2, 1}, false},
		{"what is asked in a greater layer", p, []int{1, 0, 0, 2}, false},
		{"what is asked in a lesser layer", p, []int{0, 0, 4, 5}, true},
		{"what is not asked may be anywhere", p, []int{0, 9, 0, 1}, true},
		{"layers without predicates", p, []int{3, 3, 7, 100}, true},
		{"the greatest number", p, []int{0, 0, 0, math.MaxInt}, true},
		{"the greatest number of a yes", p, []int{math.MaxInt - 1, 0, math.MaxInt - 1, math.MaxInt}, true},
		{"the greatest number of a no", p, []int{0, 0, math.MaxInt, math.MaxInt}, false},
		{"below 0", p, []int{0, -1, 0, 1}, false},
		{"all below 0", p, []int{-2, -2, -2, -1}, false},
		{"the least number", p, []int{math.MinInt, 0, 0, 1}, false},
		{"too few", p, []int{0, 0, 0}, false},
		{"too many", p, []int{0, 0, 0, 1, 0}, false},
		{"none", p, nil, false},
		{"a ring in one layer", ring, []int{2, 2, 3}, true},
		{"a ring in two layers", ring, []int{0, 1, 2}, false},
		{"a ring in two layers, the other way", ring, []int{1, 0, 2}, false},
		{"who asks itself", linked(1, linkYes(0, 0)), []int{5}, true},
		{"who denies itself", linked(1, linkNo(0, 0)), []int{5}, false},
		{"who asks and denies itself", linked(1, linkYes(0, 0), linkNo(0, 0)), []int{0}, false},
		{"both kinds, the same layer", linked(2, linkYes(0, 1), linkNo(0, 1)), []int{1, 1}, false},
		{"both kinds, a lesser layer", linked(2, linkYes(0, 1), linkNo(0, 1)), []int{1, 0}, true},
		{"comparisons do not ask for the predicate 0", growing(rule(atom(1, varW), yes(2, varW, varX), less(varW, varX))), []int{8, 0, 0, 0, 0}, true},
		{"no rules", growing(), []int{4, 3, 2, 1, 0}, true},
		{"no rules, one too few", growing(), []int{4, 3, 2, 1}, false},
		{"no predicates", impl.Program{}, nil, true},
		{"no predicates, and a layer", impl.Program{}, []int{0}, false},
	}
	for _, c := range cases {
		if got := impl.LayersFit(c.p, c.layers); got != c.want {
			t.Errorf("%s: LayersFit(%v) = %v", c.name, c.layers, got)
		}
	}
}

func TestStrataOfWhatIsNone(t *testing.T) {
	for name, p := range noPrograms() {
		if got := impl.LinksOf(p); len(got) != 0 {
			t.Errorf("%s: LinksOf = %v", name, got)
		}
		if got := impl.Reaches(p); len(got) != 0 {
			t.Errorf("%s: Reaches = %v", name, got)
		}
		if got := impl.GroupsOf(p); len(got) != 0 {
			t.Errorf("%s: GroupsOf = %v", name, got)
		}
		if got, ok := impl.LayersOf(p); ok || len(got) != 0 {
			t.Errorf("%s: LayersOf = %v, %v", name, got, ok)
		}
		for _, layers := range [][]int{make([]int, len(p.Arity)), numbersTo(len(p.Arity)), nil} {
			if impl.LayersFit(p, layers) {
				t.Errorf("%s: LayersFit(%v)", name, layers)
			}
		}
		p.Rules = append(slices.Clone(p.Rules), rule(atom(0), yes(0)))
		for _, pred := range append(numbersTo(len(p.Arity)), -1, len(p.Arity), 64) {
			if impl.Recursive(p, pred) {
				t.Errorf("%s: %d is recursive", name, pred)
			}
		}
	}
}

// The fifth promise, for all programs of two predicates, and all of three in which none asks another one in both ways.
func TestLayersAreTheLeastThatFit(t *testing.T) {
	counts := map[bool]int{}
	check := func(preds int, kinds int) {
		for n := range power(kinds, preds*preds) {
			p := programOfNumber(preds, kinds, n)
			_, ok := impl.LayersOf(p)
			counts[ok]++
			checkLeastLayers(t, p)
			checkAgainstPlain(t, p)
		}
	}
	check(1, 4)
	check(2, 4)
	check(3, 3)
	if counts[true] < 1000 || counts[false] < 1000 {
		t.Errorf("%d with layers, %d without", counts[true], counts[false])
	}
}

// checkLeastLayers holds LayersOf against all lists of layers up to the number of predicates.
func checkLeastLayers(t *testing.T, p impl.Program) {
	t.Helper()
	preds := len(p.Arity)
	layers, ok := impl.LayersOf(p)
	if ok && !impl.LayersFit(p, layers) {
		t.Fatalf("LayersOf(%v) = %v do not fit", p, layers)
	}
	for n := range power(preds+1, preds) {
		other := digits(n, preds+1, preds)
		fits := plainFit(p, other)
		if got := impl.LayersFit(p, other); got != fits {
			t.Fatalf("LayersFit(%v, %v) = %v", p, other, got)
		}
		if fits && !ok {
			t.Fatalf("LayersOf(%v) has none, and %v fit", p, other)
		}
		for pred := range preds {
			if fits && other[pred] < layers[pred] {
				t.Fatalf("LayersOf(%v) = %v, and %v fit", p, layers, other)
			}
		}
	}
}

// Programs of 4 to 24 predicates with few and with many links are held against a plain model.
func TestStrataAgainstPlainOnes(t *testing.T) {
	next := numbersFrom(5)
	counts := map[bool]int{}
	for range 4000 {
		preds := 4 + next(21)
		denied := 1 + next(12)
		var links []impl.Link
		for range next(2 * preds) {
			link := impl.Link{From: next(preds), To: next(preds), No: next(12) < denied}
			// Denials that go down alone leave layers to more programs.
			if link.No && link.From < link.To && next(4) > 0 {
				link.From, link.To = link.To, link.From
			}
			links = append(links, link)
		}
		p := linked(preds, links...)
		_, ok := impl.LayersOf(p)
		counts[ok]++
		checkAgainstPlain(t, p)
	}
	if counts[true] < 500 || counts[false] < 500 {
		t.Errorf("%d with layers, %d without", counts[true], counts[false])
	}
}

func checkAgainstPlain(t *testing.T, p impl.Program) {
	t.Helper()
	if got, want := impl.LinksOf(p), plainLinks(p); !slices.Equal(got, want) {
		t.Fatalf("LinksOf(%v) = %v, want %v", p, got, want)
	}
	reach := plainReaches(p)
	if got := impl.Reaches(p); !slices.EqualFunc(got, reach, slices.Equal[[]bool]) {
		t.Fatalf("Reaches(%v) = %v, want %v", p, got, reach)
	}
	for pred := range p.Arity {
		if got := impl.Recursive(p, pred); got != reach[pred][pred] {
			t.Fatalf("Recursive(%v, %d) = %v", p, pred, got)
		}
	}
	if got, want := impl.GroupsOf(p), plainGroups(reach); !sameLists(got, want) {
		t.Fatalf("GroupsOf(%v) = %v, want %v", p, got, want)
	}
	layers, ok := impl.LayersOf(p)
	if ok != !deniesWhoAsks(p, reach) {
		t.Fatalf("LayersOf(%v) = %v, %v", p, layers, ok)
	}
	if want := plainLayers(p); !slices.Equal(layers, want) {
		t.Fatalf("LayersOf(%v) = %v, want %v", p, layers, want)
	}
	if ok && !impl.LayersFit(p, layers) {
		t.Fatalf("LayersOf(%v) = %v do not fit", p, layers)
	}
}

// As many predicates, rules and literals as there may be.
func TestStrataOfManyPredicates(t *testing.T) {
	last := impl.MaxPreds - 1
	var down, up, ring []impl.Link
	for pred := range last {
		down = append(down, linkNo(pred+1, pred))
		up = append(up, linkNo(pred, pred+1))
		ring = append(ring, linkYes(pred, pred+1))
	}
	ring = append(ring, linkYes(last, 0))
	numbers := numbersTo(impl.MaxPreds)
	backwards := slices.Clone(numbers)
	slices.Reverse(backwards)
	if layers, ok := impl.LayersOf(linked(impl.MaxPreds, down...)); !ok || !slices.Equal(layers, numbers) {
		t.Errorf("LayersOf = %v, %v", layers, ok)
	}
	if layers, ok := impl.LayersOf(linked(impl.MaxPreds, up...)); !ok || !slices.Equal(layers, backwards) {
		t.Errorf("LayersOf = %v, %v", layers, ok)
	}
	if groups := impl.GroupsOf(linked(impl.MaxPreds, up...)); len(groups) != impl.MaxPreds || !slices.Equal(slices.Concat(groups...), backwards) {
		t.Errorf("GroupsOf = %v", groups)
	}
	if groups := impl.GroupsOf(linked(impl.MaxPreds, ring...)); !sameLists(groups, [][]int{numbers}) {
		t.Errorf("GroupsOf a ring = %v", groups)
	}
	var full []impl.Link
	for n := range impl.MaxRules * impl.MaxBody {
		full = append(full, impl.Link{From: n / 10, To: n * 7 % impl.MaxPreds, No: n%5 == 0})
	}
	for _, links := range [][]impl.Link{down, up, ring, append(ring, linkNo(5, 5)), append(ring, down...), full[:200]} {
		checkAgainstPlain(t, linked(impl.MaxPreds, links...))
	}
	p := linked(impl.MaxPreds)
	for n := range impl.MaxRules {
		head := n % impl.MaxPreds
		p.Rules = append(p.Rules, rule(atom(head), yes(head*n%impl.MaxPreds), no(n/2), yes(head/2), yes(n%7)))
		if n/2 >= impl.MaxPreds {
			p.Rules[n].Body[1] = no(head / 3)
		}
	}
	if !impl.ProgramOk(p) {
		t.Fatal("no program of the limits")
	}
	checkAgainstPlain(t, p)
	p.Rules = append(p.Rules, rule(atom(0)))
	if _, ok := impl.LayersOf(p); ok || len(impl.LinksOf(p)) != 0 || len(impl.Reaches(p)) != 0 || len(impl.GroupsOf(p)) != 0 || impl.LayersFit(p, make([]int, impl.MaxPreds)) {
		t.Error("a rule too many")
	}
}

func TestStrataNilIsEmpty(t *testing.T) {
	for _, p := range []impl.Program{{}, {Arity: []int{}, Rules: []impl.Rule{}}} {
		if len(impl.LinksOf(p)) != 0 || len(impl.Reaches(p)) != 0 || len(impl.GroupsOf(p)) != 0 || impl.Recursive(p, 0) {
			t.Error("nothing has links")
		}
		if layers, ok := impl.LayersOf(p); !ok || len(layers) != 0 {
			t.Errorf("LayersOf nothing = %v, %v", layers, ok)
		}
		for _, layers := range [][]int{nil, {}} {
			if !impl.LayersFit(p, layers) {
				t.Error("no layers do not fit nothing")
			}
		}
	}
	for _, args := range [][]int{nil, {}} {
		for _, body := range [][]impl.Lit{nil, {}} {
			p := programWith([]int{0, 0}, impl.Rule{Head: impl.Atom{Args: args}, Body: body}, impl.Rule{Head: atom(1), Body: []impl.Lit{{Kind: impl.LitNo, Atom: impl.Atom{Args: args}}}})
			if got := impl.LinksOf(p); !slices.Equal(got, []impl.Link{linkNo(1, 0)}) {
				t.Errorf("LinksOf = %v", got)
			}
			if layers, ok := impl.LayersOf(p); !ok || !slices.Equal(layers, []int{0, 1}) {
				t.Errorf("LayersOf = %v, %v", layers, ok)
			}
		}
	}
}

func TestStrataArgumentsAreNotChanged(t *testing.T) {
	for _, c := range strataCases() {
		p := roomyProgram(c.p)
		layers := roomyNumbers(numbersTo(len(p.Arity)))
		before, wantLayers := programNumbers(p), slices.Clone(layers[:cap(layers)])
		impl.LinksOf(p)
		impl.Reaches(p)
		impl.GroupsOf(p)
		impl.LayersOf(p)
		impl.LayersFit(p, layers)
		impl.Recursive(p, 0)
		if !slices.Equal(programNumbers(p), before) || !slices.Equal(layers[:cap(layers)], wantLayers) {
			t.Errorf("%s: an argument is changed", c.name)
		}
	}
}

func TestStrataShareNothing(t *testing.T) {
	p := roomyProgram(growing(append(wayRules(), rule(atom(1, varW), yes(3, varW), no(0)), rule(atom(3, varW), yes(1, varW), yes(4, varW, varW)))...))
	before := programNumbers(p)
	checkApart(t, "LinksOf", func() [][]impl.Link { return [][]impl.Link{impl.LinksOf(p)} }, impl.Link{From: -77, To: -77, No: true})
	checkApart(t, "GroupsOf", func() [][]int { return impl.GroupsOf(p) }, -77)
	checkApart(t, "LayersOf", func() [][]int { layers, _ := impl.LayersOf(p); return [][]int{layers} }, -77)
	for _, value := range []bool{false, true} {
		checkApart(t, "Reaches", func() [][]bool { return impl.Reaches(p) }, value)
	}
	if !slices.Equal(programNumbers(p), before) {
		t.Error("writing to a result changes the program")
	}
	groups := impl.GroupsOf(p)
	want := impl.GroupsOf(p)
	all := groups[:cap(groups)]
	for i := range all {
		all[i] = nil
	}
	if !sameLists(impl.GroupsOf(p), want) {
		t.Error("two lists of groups share memory")
	}
}

// checkApart writes to all of one row of a result, unused capacity included, and checks that no other row, and no other result, is changed.
func checkApart[T comparable](t *testing.T, name string, call func() [][]T, value T) {
	t.Helper()
	want := call()
	for at := range want {
		first, second := call(), call()
		if len(first[at]) == 0 {
			t.Errorf("%s: the row %d has nothing", name, at)
		}
		row := first[at][:cap(first[at])]
		for i := range row {
			row[i] = value
		}
		first[at] = want[at]
		for _, got := range [][][]T{first, second, call()} {
			if !slices.EqualFunc(got, want, slices.Equal[[]T]) {
				t.Errorf("%s: writing to the row %d changes another one", name, at)
			}
		}
	}
}

// rowsOf returns for each list of numbers a row that tells which ones are in it.
func rowsOf(lists [][]int) [][]bool {
	out := make([][]bool, len(lists))
	for i, list := range lists {
		out[i] = make([]bool, len(lists))
		for _, n := range list {
			out[i][n] = true
		}
	}
	return out
}

func numbersTo(end int) []int {
	var out []int
	for n := range end {
		out = append(out, n)
	}
	return out
}

func power(base, exponent int) int {
	out := 1
	for range exponent {
		out *= base
	}
	return out
}

// digits returns the lowest digits of a number in a base, the lowest first.
func digits(n, base, many int) []int {
	out := make([]int, many)
	for i := range out {
		out[i] = n % base
		n /= base
	}
	return out
}

// programOfNumber returns the program in which the digits of a number tell how each predicate asks each one:
// not at all, by a LitYes, by a LitNo, or by both.
func programOfNumber(preds, kinds, n int) impl.Program {
	var links []impl.Link
	for i, kind := range digits(n, kinds, preds*preds) {
		if kind&1 != 0 {
			links = append(links, linkYes(i/preds, i%preds))
		}
		if kind&2 != 0 {
			links = append(links, linkNo(i/preds, i%preds))
		}
	}
	return linked(preds, links...)
}

// plainAsks reports whether a rule with a predicate as head has a literal of a kind of another one.
func plainAsks(p impl.Program, from, to, kind int) bool {
	for _, r := range p.Rules {
		for _, l := range r.Body {
			if r.Head.Pred == from && l.Kind == kind && l.Atom.Pred == to {
				return true
			}
		}
	}
	return false
}

func plainLinks(p impl.Program) []impl.Link {
	var out []impl.Link
	for from := range p.Arity {
		for to := range p.Arity {
			if plainAsks(p, from, to, impl.LitYes) {
				out = append(out, linkYes(from, to))
			}
			if plainAsks(p, from, to, impl.LitNo) {
				out = append(out, linkNo(from, to))
			}
		}
	}
	return out
}

// plainReaches puts ways together over each predicate in turn.
func plainReaches(p impl.Program) [][]bool {
	reach := rowsOf(make([][]int, len(p.Arity)))
	for _, link := range plainLinks(p) {
		reach[link.From][link.To] = true
	}
	for over := range reach {
		for from := range reach {
			for to := range reach {
				reach[from][to] = reach[from][to] || reach[from][over] && reach[over][to]
			}
		}
	}
	return reach
}

// plainGroups tells the groups as the document does; in the order of their first predicates, the first one that may come does.
func plainGroups(reach [][]bool) [][]int {
	var out [][]int
	told := make([]bool, len(reach))
	for pred := 0; pred < len(reach); {
		var group []int
		ready := !told[pred]
		for other := range reach {
			if other == pred || reach[pred][other] && reach[other][pred] {
				group = append(group, other)
			} else if reach[pred][other] && !told[other] {
				ready = false
			}
		}
		if !ready {
			pred++
			continue
		}
		for _, member := range group {
			told[member] = true
		}
		out = append(out, group)
		pred = 0
	}
	return out
}

// deniesWhoAsks reports whether some predicate that is denied asks who denies it, at once or over others, or is it.
func deniesWhoAsks(p impl.Program, reach [][]bool) bool {
	for _, link := range plainLinks(p) {
		if link.No && (link.From == link.To || reach[link.To][link.From]) {
			return true
		}
	}
	return false
}

func plainFit(p impl.Program, layers []int) bool {
	for _, r := range p.Rules {
		for _, l := range r.Body {
			from, to := layers[r.Head.Pred], layers[l.Atom.Pred]
			if l.Kind == impl.LitYes && to > from || l.Kind == impl.LitNo && to >= from {
				return false
			}
		}
	}
	return true
}

// plainLayers raises layers one by one as long as a literal asks for it; there are none if one is past all predicates.
func plainLayers(p impl.Program) []int {
	layers := make([]int, len(p.Arity))
	links := plainLinks(p)
	for changed := true; changed; {
		changed = false
		for _, link := range links {
			least := layers[link.To]
			if link.No {
				least++
			}
			if layers[link.From] < least {
				layers[link.From]++
				changed = true
			}
			if layers[link.From] > len(layers) {
				return nil
			}
		}
	}
	return layers
}
