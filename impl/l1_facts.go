package impl

import (
	"cmp"
	"slices"
)

// Limits of facts.
const (
	MaxConst = 5
	MaxPreds = 24
	MaxArity = 2
)

// Fact says something of constants.
type Fact struct {
	Pred int
	Args []int
}

// ArityOk reports whether numbers of places are ones of predicates.
func ArityOk(arity []int) bool {
	if len(arity) > MaxPreds {
		return false
	}
	for _, places := range arity {
		if places < 0 || places > MaxArity {
			return false
		}
	}
	return true
}

// FactOk reports whether a fact is one of predicates with so many places.
func FactOk(arity []int, f Fact) bool {
	return ArityOk(arity) && factFits(arity, f)
}

// FactOrder tells the order of two facts: -1, 0 or 1.
func FactOrder(a Fact, b Fact) int {
	return cmp.Or(cmp.Compare(a.Pred, b.Pred), slices.Compare(a.Args, b.Args))
}

// FactsOk reports whether facts are ones, ascending.
func FactsOk(arity []int, list []Fact) bool {
	if !ArityOk(arity) {
		return false
	}
	for i, f := range list {
		if !factFits(arity, f) {
			return false
		}
		if i > 0 && FactOrder(list[i-1], f) >= 0 {
			return false
		}
	}
	return true
}

// FactsHas reports whether facts, in any order, have one.
func FactsHas(list []Fact, f Fact) bool {
	for _, g := range list {
		if FactOrder(g, f) == 0 {
			return true
		}
	}
	return false
}

// FactsWith returns facts and one more.
func FactsWith(list []Fact, f Fact) []Fact {
	out := make([]Fact, 0, len(list)+1)
	placed := false
	for _, g := range list {
		order := FactOrder(f, g)
		if !placed && order <= 0 {
			out = append(out, copyFact(f))
			placed = true
		}
		if order != 0 {
			out = append(out, copyFact(g))
		}
	}
	if !placed {
		out = append(out, copyFact(f))
	}
	return out
}

// FactsEither returns the facts of one of two lists.
func FactsEither(a []Fact, b []Fact) []Fact {
	return copyFacts(factSet(slices.Concat(a, b)))
}

// FactsBoth returns the facts of both lists.
func FactsBoth(a []Fact, b []Fact) []Fact {
	return factsByOther(a, b, true)
}

// FactsLess returns the facts of the first list alone.
func FactsLess(a []Fact, b []Fact) []Fact {
	return factsByOther(a, b, false)
}

// FactsOf returns the facts of a predicate, as they stand.
func FactsOf(list []Fact, pred int) []Fact {
	var out []Fact
	for _, f := range list {
		if f.Pred == pred {
			out = append(out, copyFact(f))
		}
	}
	return out
}

// AllFacts returns all facts of a predicate with so many places.
func AllFacts(pred int, places int) []Fact {
	if pred < 0 || pred >= MaxPreds || places < 0 || places > MaxArity {
		return nil
	}
	count := 1
	for range places {
		count *= MaxConst + 1
	}
	all := make([]Fact, count)
	for i := range all {
		all[i] = Fact{Pred: pred, Args: constantDigits(i, places)}
	}
	return all
}

// factFits is FactOk for predicates that have been checked.
func factFits(arity []int, f Fact) bool {
	if f.Pred < 0 || f.Pred >= len(arity) || len(f.Args) != arity[f.Pred] {
		return false
	}
	return areConstants(f.Args)
}

func areConstants(args []int) bool {
	for _, c := range args {
		if c < 0 || c > MaxConst {
			return false
		}
	}
	return true
}

// copyFact returns a fact in memory of its own.
func copyFact(f Fact) Fact {
	return Fact{Pred: f.Pred, Args: append([]int(nil), f.Args...)}
}

// copyFacts returns facts in memory of their own.
func copyFacts(list []Fact) []Fact {
	out := make([]Fact, len(list))
	for i, f := range list {
		out[i] = copyFact(f)
	}
	return out
}

// factSet returns facts ascending in a new list, whose Args are still those of the given one.
func factSet(list []Fact) []Fact {
	set := slices.Clone(list)
	slices.SortFunc(set, FactOrder)
	return slices.CompactFunc(set, sameFact)
}

// setHas reports by bisection whether a list that is ascending has a fact.
func setHas(set []Fact, f Fact) bool {
	_, found := slices.BinarySearchFunc(set, f, FactOrder)
	return found
}

func sameFact(a Fact, b Fact) bool {
	return FactOrder(a, b) == 0
}

// factsByOther returns the facts of one list, ascending, that another list has, or those that it does not have.
func factsByOther(list []Fact, other []Fact, has bool) []Fact {
	otherSet := factSet(other)
	var out []Fact
	for _, f := range factSet(list) {
		if setHas(otherSet, f) == has {
			out = append(out, copyFact(f))
		}
	}
	return out
}

// constantDigits returns the digits of a number in the base of all constants, the greatest digit first.
func constantDigits(n int, places int) []int {
	digits := make([]int, places)
	for i := places - 1; i >= 0; i-- {
		digits[i] = n % (MaxConst + 1)
		n /= MaxConst + 1
	}
	return digits
}

// constantsNumber returns the number of which constants are the digits.
func constantsNumber(args []int) int {
	n := 0
	for _, c := range args {
		n = n*(MaxConst+1) + c
	}
	return n
}
