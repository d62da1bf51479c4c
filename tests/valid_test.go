package tests

import (
	"slices"
	"testing"

	"loop.example/handrail/impl"
)

// modelSpot is a place with how it is come to.
type modelSpot struct {
	at, names, values int
	part              string
}

// modelWay is a way from a place to another one: where (the next one, or a number of the instruction), and what is more there.
type modelWay struct {
	to            string
	names, values int
}

// modelRule is a line of the document's table: how many values and names an instruction needs, and the ways from there.
type modelRule struct {
	values, names int
	ways          []modelWay
}

func modelRules() map[int]modelRule {
	push := modelRule{ways: []modelWay{{"next", 0, 1}}}
	merge := modelRule{values: 2, ways: []modelWay{{"next", 0, -1}}}
	turn := modelRule{values: 1, ways: []modelWay{{"next", 0, 0}}}
	return map[int]modelRule{
		impl.IInt: push, impl.IBool: push, impl.IUnit: push, impl.INil: push, impl.IVar: push, impl.IClos: push, impl.IRec: push,
		impl.IApp: merge, impl.IArith: merge, impl.IPair: merge, impl.ICons: merge, impl.IFst: turn, impl.ISnd: turn, impl.IPrint: turn, impl.IDo: turn,
		impl.ITest: {values: 1, ways: []modelWay{{"A", 0, -1}, {"next", 0, -1}}}, impl.IJump: {ways: []modelWay{{"A", 0, 0}}}, impl.IBind: {values: 1, ways: []modelWay{{"next", 1, -1}}}, impl.IDrop: {names: 1, ways: []modelWay{{"next", -1, 0}}},
		impl.ICase: {values: 1, ways: []modelWay{{"A", 0, -1}, {"next", 2, -1}}}, impl.IHandle: {ways: []modelWay{{"C", 0, 1}}}, impl.IHalt: {values: 1}, impl.IRet: {values: 1}, impl.IDone: {values: 1},
	}
}

// modelTable are the functions of a handler's table, or false if there is none at that place.
func modelTable(c []ins, at int, names int) ([]modelSpot, bool) {
	if at >= len(c) || c[at].Op != impl.ITab || c[at].B > 4 || at+c[at].B >= len(c) {
		return nil, false
	}
	all := []modelSpot{{c[at].A, names + 1, 0, "function"}}
	for k := 1; k <= c[at].B; k++ {
		if c[at+k].Op != impl.ITabOp {
			return nil, false
		}
		all = append(all, modelSpot{c[at+k].B, names + 2, 0, "function"})
	}
	return all, true
}

// modelFrom is all that is come to from a place, and whether the instruction there has what it needs.
func modelFrom(c []ins, s modelSpot) ([]modelSpot, bool) {
	i := c[s.at]
	rule, is := modelRules()[i.Op]
	if !is || s.values < rule.values || s.names < rule.names {
		return nil, false
	}
	var all []modelSpot
	switch i.Op {
	case impl.IVar:
		if i.A >= s.names {
			return nil, false
		}
	case impl.IHalt, impl.IRet, impl.IDone:
		part := map[int]string{impl.IHalt: "whole", impl.IRet: "function", impl.IDone: "body"}[i.Op]
		return nil, s.values == 1 && s.part == part
	case impl.IClos:
		all = append(all, modelSpot{i.A, s.names + 1, 0, "function"})
	case impl.IRec:
		all = append(all, modelSpot{i.A, s.names + 2, 0, "function"})
	case impl.IHandle:
		table, is := modelTable(c, i.A, s.names)
		if !is {
			return nil, false
		}
		all = append(table, modelSpot{s.at + 1, s.names, 0, "body"})
	}
	for _, way := range rule.ways {
		to := map[string]int{"next": s.at + 1, "A": i.A, "C": i.C}[way.to]
		all = append(all, modelSpot{to, s.names + way.names, s.values + way.values, s.part})
	}
	return all, true
}

// modelValid is every way in which each place of code is come to, or false if it is not valid. All instructions may be.
func modelValid(c []ins) (map[int]modelSpot, bool) {
	met := map[int]modelSpot{}
	owed := []modelSpot{{part: "whole"}}
	for len(owed) > 0 {
		s := owed[0]
		owed = owed[1:]
		if s.at >= len(c) || s.names > 100 || s.values > 100 {
			return nil, false
		}
		if had, has := met[s.at]; has && had != s {
			return nil, false
		} else if has {
			continue
		}
		met[s.at] = s
		more, ok := modelFrom(c, s)
		if !ok {
			return nil, false
		}
		owed = append(owed, more...)
	}
	return met, true
}

// checkValid holds what is told of code against the model (promise 18), and answers whether it is valid.
func checkValid(t *testing.T, c []ins) bool {
	t.Helper()
	met, valid := modelValid(c)
	names, values, ok := impl.CodeDepths(c)
	if impl.CodeOk(c) != valid || ok != valid {
		t.Fatalf("%v: %v %v, not %v", c, impl.CodeOk(c), ok, valid)
	}
	if !valid && (names != nil || values != nil) || valid && (len(names) != len(c) || len(values) != len(c)) {
		t.Fatalf("%v: %v %v", c, names, values)
	}
	for at := range names {
		s, has := met[at]
		if has && (names[at] != s.names || values[at] != s.values) || !has && (names[at] != -1 || values[at] != -1) {
			t.Fatalf("%v: at %d %d %d, not %v %v", c, at, names[at], values[at], s, has)
		}
	}
	return valid
}

// wantValid asks whether code is valid.
func wantValid(t *testing.T, want bool, c ...ins) {
	t.Helper()
	if got := checkValid(t, c); got != want {
		t.Errorf("%v: %v", c, got)
	}
}

// spent brings so many values down, or up, to one, and ends the whole.
func spent(values int) []ins {
	if values == 0 {
		return []ins{does(impl.IUnit), does(impl.IHalt)}
	}
	return append(many(does(impl.IBind), values-1), does(impl.IHalt))
}

// boundNames makes so many names known.
func boundNames(names int) []ins {
	return slices.Repeat([]ins{does(impl.IUnit), does(impl.IBind)}, names)
}

func TestNeedsOfInstructions(t *testing.T) {
	unitOf := func(n int) []ins { return many(does(impl.IUnit), n) }
	for _, c := range []struct {
		does         ins
		values, left int
	}{
		{does(impl.IInt, -7), 0, 1}, {does(impl.IBool, 1), 0, 1}, {does(impl.IUnit), 0, 1}, {does(impl.INil), 0, 1}, {does(impl.IApp), 2, 1}, {does(impl.IArith, impl.NLt), 2, 1}, {does(impl.IPair), 2, 1}, {does(impl.ICons), 2, 1},
		{does(impl.IBind), 1, 0}, {does(impl.IFst), 1, 1}, {does(impl.ISnd), 1, 1}, {does(impl.IPrint), 1, 1}, {does(impl.IDo, 65535), 1, 1},
	} {
		for extra := range 3 {
			wantValid(t, true, slices.Concat(unitOf(c.values+extra), []ins{c.does}, spent(c.left+extra))...)
		}
		for values := range c.values {
			wantValid(t, false, slices.Concat(unitOf(values), []ins{c.does}, spent(c.left))...)
			wantValid(t, false, slices.Concat(unitOf(values), []ins{c.does}, spent(max(0, c.left-1)))...)
		}
	}
	for names := range 4 {
		wantValid(t, names > 0, append(boundNames(names), does(impl.IDrop), does(impl.IUnit), does(impl.IHalt))...)
		for ahead := range 5 {
			wantValid(t, ahead < names, append(boundNames(names), does(impl.IVar, ahead), does(impl.IHalt))...)
		}
		for values := range 4 {
			wantValid(t, values == 1, slices.Concat(boundNames(names), unitOf(values), []ins{does(impl.IHalt)})...)
		}
	}
	wantValid(t, false, does(impl.IUnit), does(impl.IRet))
	wantValid(t, false, does(impl.IUnit), does(impl.IDone))
	wantValid(t, false, does(impl.IUnit), does(impl.ITab))
	wantValid(t, false, does(impl.IUnit), does(impl.ITabOp))
}

func TestPlacesOfFunctions(t *testing.T) {
	for _, c := range []struct{ make, names int }{{impl.IClos, 1}, {impl.IRec, 2}} {
		fn := func(around int, body ...ins) []ins {
			ahead := append(boundNames(around), does(c.make, 2*around+2), does(impl.IHalt))
			return append(ahead, body...)
		}
		for around := range 3 {
			for ahead := range 6 {
				wantValid(t, ahead < around+c.names, fn(around, does(impl.IVar, ahead), does(impl.IRet))...)
			}
			wantValid(t, false, fn(around, does(impl.IRet))...)
			wantValid(t, false, fn(around, does(impl.IUnit), does(impl.IUnit), does(impl.IRet))...)
			wantValid(t, false, fn(around, does(impl.IUnit), does(impl.IHalt))...)
			wantValid(t, false, fn(around, does(impl.IUnit), does(impl.IDone))...)
			wantValid(t, false, fn(around, does(impl.IUnit))...)
			wantValid(t, false, fn(around)...)
			wantValid(t, true, fn(around, does(impl.IJump, 2*around+2))...)
			wantValid(t, true, fn(around, does(c.make, 2*around+4), does(impl.IRet), does(impl.IVar, around+2*c.names-1), does(impl.IRet))...)
		}
	}
	// One function may be led to twice, from as many names.
	wantValid(t, true, does(impl.IClos, 4), does(impl.IClos, 4), does(impl.IPair), does(impl.IHalt), does(impl.IUnit), does(impl.IRet))
	wantValid(t, false, does(impl.IClos, 4), does(impl.IRec, 4), does(impl.IPair), does(impl.IHalt), does(impl.IUnit), does(impl.IRet))
	wantValid(t, false, does(impl.IClos, 5), does(impl.IBind), does(impl.IClos, 5), does(impl.IBind), does(impl.IHalt), does(impl.IUnit), does(impl.IRet))
}

func TestPlacesThatAreComeToTwice(t *testing.T) {
	join := func(ahead, left, right []ins) []ins {
		z := len(ahead) + 2 + len(left) + 1
		return slices.Concat(ahead, []ins{does(impl.IBool, 1), does(impl.ITest, z)}, left, []ins{does(impl.IJump, z+len(right))}, right, []ins{does(impl.IHalt)})
	}
	one := []ins{does(impl.IUnit)}
	two := many(does(impl.IUnit), 2)
	bind := []ins{does(impl.IUnit), does(impl.IBind)}
	wantValid(t, true, join(nil, one, one)...)
	wantValid(t, true, join(one, nil, nil)...)
	wantValid(t, true, join(one, slices.Concat(bind, []ins{does(impl.IDrop)}), nil)...)
	wantValid(t, false, join(nil, one, two)...)
	wantValid(t, false, join(nil, two, one)...)
	wantValid(t, false, join(nil, one, nil)...)
	wantValid(t, false, join(nil, slices.Concat(bind, one), one)...)
	wantValid(t, false, join(nil, one, slices.Concat(bind, one))...)
	wantValid(t, false, join(one, bind, nil)...)
	wantValid(t, true, does(impl.IJump, 0))
	wantValid(t, true, does(impl.IUnit), does(impl.IBind), does(impl.IDrop), does(impl.IJump, 0))
	wantValid(t, false, does(impl.IUnit), does(impl.IJump, 0))
	wantValid(t, false, does(impl.IUnit), does(impl.IBind), does(impl.IJump, 0))
	// The same names and values, but as a place of the whole and as one of a function, or of a body.
	wantValid(t, false, does(impl.IClos, 2), does(impl.IBind), does(impl.IJump, 2))
	wantValid(t, false, does(impl.IClos, 3), does(impl.IBind), does(impl.IJump, 3), does(impl.IUnit), does(impl.IHalt))
	wantValid(t, false, does(impl.IClos, 3), does(impl.IBind), does(impl.IJump, 3), does(impl.IUnit), does(impl.IRet))
	wantValid(t, true, does(impl.IClos, 3), does(impl.IBind), does(impl.IJump, 2), does(impl.IJump, 3))
	wantValid(t, false, does(impl.IHandle, 3, 1, 2), does(impl.IJump, 1), does(impl.IBind), does(impl.ITab, 1))
	wantValid(t, false, does(impl.IBool), does(impl.ITest, 3), does(impl.IHandle, 5, 0, 4), does(impl.IJump, 3), does(impl.IHalt), does(impl.ITab, 6), does(impl.IJump, 6))
	wantValid(t, true, does(impl.IBool), does(impl.ITest, 7), does(impl.IHandle, 5, 0, 4), does(impl.IJump, 3), does(impl.IHalt), does(impl.ITab, 6), does(impl.IJump, 6), does(impl.IJump, 7))
	// What is not come to does not matter.
	wantValid(t, true, does(impl.IUnit), does(impl.IHalt), does(impl.IApp), does(impl.ITab, 9, 9), does(impl.IJump, 65535), does(impl.IRet))
	names, values, ok := impl.CodeDepths([]ins{does(impl.IUnit), does(impl.IBind), does(impl.IVar, 0), does(impl.IHalt), does(impl.IApp)})
	if !ok || !slices.Equal(names, []int{0, 0, 1, 1, -1}) || !slices.Equal(values, []int{0, 1, 0, 1, -1}) {
		t.Errorf("%v %v %v", names, values, ok)
	}
}

func TestPlacesPastTheEnd(t *testing.T) {
	wantValid(t, false)
	wantValid(t, false, does(impl.IUnit))
	wantValid(t, false, does(impl.IJump, 1))
	wantValid(t, false, does(impl.IJump, 65535))
	wantValid(t, false, does(impl.IClos, 2), does(impl.IHalt))
	wantValid(t, false, does(impl.IRec, 2), does(impl.IHalt))
	wantValid(t, false, does(impl.IBool), does(impl.ITest, 4), does(impl.IUnit), does(impl.IHalt))
	wantValid(t, false, does(impl.IBool), does(impl.ITest, 0))
	wantValid(t, true, does(impl.INil), does(impl.ICase, 4), does(impl.IVar, 1), does(impl.IHalt), does(impl.IUnit), does(impl.IHalt))
	wantValid(t, false, does(impl.INil), does(impl.ICase, 4), does(impl.IVar, 2), does(impl.IHalt), does(impl.IUnit), does(impl.IHalt))
	wantValid(t, false, does(impl.INil), does(impl.ICase, 4), does(impl.IVar, 1), does(impl.IHalt), does(impl.IVar, 0), does(impl.IHalt))
	wantValid(t, false, does(impl.INil), does(impl.ICase, 4), does(impl.IVar, 1), does(impl.IHalt))
	wantValid(t, false, does(impl.ICase, 1), does(impl.IUnit), does(impl.IHalt))
	wantValid(t, false, does(impl.ITest, 1), does(impl.IUnit), does(impl.IHalt))
}

// handled is code of a handler with so many clauses, whose table tells another number of them.
func handled(around, clauses, told int) []ins {
	table := 2*around + 4
	first := table + 1 + clauses
	c := append(boundNames(around), does(impl.IHandle, table, 1, 2*around+3), does(impl.IUnit), does(impl.IDone), does(impl.IHalt), does(impl.ITab, first, told))
	for k := range clauses {
		c = append(c, does(impl.ITabOp, 65535-k, first+2+2*k))
	}
	c = append(c, does(impl.IVar, around), does(impl.IRet))
	for range clauses {
		c = append(c, does(impl.IVar, around+1), does(impl.IRet))
	}
	return c
}

func TestTablesOfHandlers(t *testing.T) {
	for around := range 3 {
		for clauses := range 7 {
			for told := range 8 {
				wantValid(t, told <= clauses && told <= impl.TreeMaxOps, handled(around, clauses, told)...)
			}
			whole := handled(around, clauses, clauses)
			table := 2*around + 4
			for at, i := range whole {
				// One name more is too many, there and in the clauses.
				if i.Op == impl.IVar {
					wantValid(t, false, slices.Replace(slices.Clone(whole), at, at+1, does(impl.IVar, i.A+1))...)
				}
			}
			if clauses < 1 || clauses > impl.TreeMaxOps {
				continue
			}
			wantValid(t, false, slices.Replace(slices.Clone(whole), table, table+1, does(impl.ITabOp, whole[table].A, whole[table].B))...)
			wantValid(t, false, slices.Replace(slices.Clone(whole), table+clauses, table+clauses+1, does(impl.IUnit))...)
			wantValid(t, false, slices.Replace(slices.Clone(whole), table+clauses, table+clauses+1, does(impl.ITabOp, 0, len(whole)))...)
			wantValid(t, false, whole[:table+clauses]...)
		}
	}
	// Where a handler is there may be values; they are not seen within it, and one more is there behind it.
	wantValid(t, true, does(impl.IUnit), does(impl.IHandle, 6, 0, 4), does(impl.IUnit), does(impl.IDone), does(impl.IPair), does(impl.IHalt), does(impl.ITab, 7), does(impl.IUnit), does(impl.IRet))
	wantValid(t, false, does(impl.IUnit), does(impl.IHandle, 6, 0, 4), does(impl.IFst), does(impl.IDone), does(impl.IPair), does(impl.IHalt), does(impl.ITab, 7), does(impl.IUnit), does(impl.IRet))
	wantValid(t, false, does(impl.IUnit), does(impl.IHandle, 6, 0, 4), does(impl.IUnit), does(impl.IHalt), does(impl.IPair), does(impl.IHalt), does(impl.ITab, 7), does(impl.IUnit), does(impl.IRet))
	wantValid(t, false, does(impl.IUnit), does(impl.IHandle, 6, 0, 4), does(impl.IUnit), does(impl.IDone), does(impl.IPair), does(impl.IHalt), does(impl.ITab, 7), does(impl.IUnit), does(impl.IDone))
	wantValid(t, false, does(impl.IUnit), does(impl.IHandle, 7, 0, 4), does(impl.IUnit), does(impl.IDone), does(impl.IPair), does(impl.IHalt), does(impl.ITab, 7), does(impl.IUnit), does(impl.IRet))
	wantValid(t, false, does(impl.IHandle, 3, 0, 4), does(impl.IUnit), does(impl.IDone), does(impl.ITab, 1))
	wantValid(t, false, does(impl.IHandle, 65535, 0, 3), does(impl.IUnit), does(impl.IDone), does(impl.IHalt))
}

func TestDepthsHaveALimit(t *testing.T) {
	most := impl.CodeMaxDepth
	for extra := range 2 {
		ok := extra == 0
		wantValid(t, ok, slices.Concat(many(does(impl.IUnit), most+extra), spent(most+extra))...)
		wantValid(t, ok, append(boundNames(most+extra), does(impl.IUnit), does(impl.IHalt))...)
		wantValid(t, ok, append(boundNames(most+extra), does(impl.IJump, 2*(most+extra)))...)
		names := most + extra
		wantValid(t, ok, append(boundNames(names-1), does(impl.IClos, 2*names), does(impl.IHalt), does(impl.IUnit), does(impl.IRet))...)
		wantValid(t, ok, append(boundNames(names-2), does(impl.IRec, 2*names-2), does(impl.IHalt), does(impl.IUnit), does(impl.IRet))...)
		wantValid(t, ok, append(boundNames(names-2), does(impl.INil), does(impl.ICase, 2*names), does(impl.IUnit), does(impl.IHalt), does(impl.IUnit), does(impl.IHalt))...)
		wantValid(t, ok, handled(names-2, 1, 1)...)
		wantValid(t, ok, handled(names-1, 0, 0)...)
		values := many(does(impl.IUnit), names-1)
		wantValid(t, ok, slices.Concat(values, []ins{does(impl.IHandle, 2*names+2, 0, names+2), does(impl.IUnit), does(impl.IDone)}, spent(names), []ins{does(impl.ITab, 2*names+3), does(impl.IUnit), does(impl.IRet)})...)
	}
	if all := append(many(does(impl.IUnit), 1), many(does(impl.IFst), impl.CodeMaxIns-2)...); !impl.CodeOk(append(all, does(impl.IHalt))) || impl.CodeOk(append(all, does(impl.IFst), does(impl.IHalt))) {
		t.Error("limit of instructions")
	}
}

// Each code of up to three instructions with small numbers.
func TestModelOfSmallCodeAgrees(t *testing.T) {
	var all []ins
	for o, form := range insForms() {
		switch len(form.ranges) {
		case 0:
			all = append(all, does(o))
		case 1:
			for n := range 4 {
				if i := does(o, form.ranges[0][0]+n); impl.InsOk(i) && (o != impl.IInt || n == 0) && (o != impl.IArith || n == 0) {
					all = append(all, i)
				}
			}
		default:
			for n := range 8 {
				all = append(all, does(o, n%4, n/4))
			}
		}
	}
	valid := 0
	for _, a := range all {
		for _, b := range all {
			if checkValid(t, []ins{a, b}) {
				valid++
			}
			for _, c := range all {
				if checkValid(t, []ins{a, b, c}) {
					valid++
				}
			}
		}
	}
	if valid < 500 {
		t.Errorf("only %d are valid", valid)
	}
}

// bent is code with one thing changed.
func bent(m fitter, c []ins) []ins {
	at := m.IntN(len(c))
	switch m.IntN(5) {
	case 0:
		return slices.Delete(slices.Clone(c), at, at+1)
	case 1:
		return slices.Insert(slices.Clone(c), at, least(m.IntN(26)))
	case 2:
		c = slices.Clone(c)
		c[at] = least(m.IntN(26))
		return c
	case 3:
		c = slices.Clone(c)
		other := m.IntN(len(c))
		c[at], c[other] = c[other], c[at]
		return c
	}
	c = slices.Clone(c)
	if numbers := len(insForms()[c[at].Op].ranges); numbers > 0 {
		c[at] = withNumber(c[at], m.IntN(numbers), m.IntN(len(c)+1))
	}
	return c
}

func TestModelOfValidityAgrees(t *testing.T) {
	m := newFitter(18)
	valid := map[bool]int{}
	for range 1500 {
		c, ok := impl.Compile(m.whole(t))
		if !ok {
			t.Fatal("no code")
		}
		valid[checkValid(t, c)]++
		for range 6 {
			if other := bent(m, c); !slices.ContainsFunc(other, func(i ins) bool { return !impl.InsOk(i) }) {
				valid[checkValid(t, other)]++
			}
		}
	}
	if valid[true] < 2000 || valid[false] < 2000 {
		t.Errorf("too few: %v", valid)
	}
}

func TestDepthsAreNewMemory(t *testing.T) {
	mark := does(77, 7, 7, 7)
	for _, kept := range [][]ins{{does(impl.IUnit), does(impl.IHalt), does(impl.IApp)}, {does(impl.IUnit), does(impl.IApp)}, handled(1, 2, 2)} {
		c := withSpare(kept, mark)
		impl.CodeOk(c)
		names, values, _ := impl.CodeDepths(c)
		againNames, againValues, _ := impl.CodeDepths(c)
		wantNames, wantValues := slices.Clone(againNames), slices.Clone(againValues)
		for at := range names[:cap(names)] {
			names[:cap(names)][at] = 55
		}
		if !slices.Equal(values, wantValues) {
			t.Errorf("%v: two lists of one answer share memory", kept)
		}
		for at := range values[:cap(values)] {
			values[:cap(values)][at] = 66
		}
		if !slices.Equal(c, kept) || !spareKept(c, mark) || !slices.Equal(againNames, wantNames) || !slices.Equal(againValues, wantValues) {
			t.Errorf("%v: an argument is written into, or two answers share memory", kept)
		}
	}
}
