package tests

import (
	"slices"
	"testing"

	"loop.example/handrail/impl"
)

// shape is a type that a tree is made for: a word, and the types within.
type shape struct {
	word  string
	parts []shape
}

func plainShape(word string) shape      { return shape{word: word} }
func listShape(of shape) shape          { return shape{word: "list", parts: []shape{of}} }
func pairShape(left, right shape) shape { return shape{word: "pair", parts: []shape{left, right}} }
func fnShape(arg, res shape) shape      { return shape{word: "fn", parts: []shape{arg, res}} }
func sameShape(a, b shape) bool {
	return a.word == b.word && slices.EqualFunc(a.parts, b.parts, sameShape)
}
func baseShape(base int) shape {
	return []shape{{}, plainShape("int"), plainShape("bool"), plainShape("unit"), listShape(plainShape("int"))}[base]
}

// knownName is a name with the shape of what it stands for.
type knownName struct {
	name string
	is   shape
}

// fitter makes trees that fit a shape: what they are given fits everywhere, though they may perform what nobody handles.
type fitter struct {
	maker
	effs []eff
	bare bool // no handlers
}

func newFitter(seed uint64) fitter {
	m := newMaker(seed)
	m.names = []string{"a", "b", "f", "g", "x", "ask"}
	return fitter{maker: m, effs: askEffs()}
}

func (m fitter) shape(deep int) shape {
	n := 8
	if deep <= 0 {
		n = 5
	}
	switch m.IntN(n) {
	case 0, 1:
		return plainShape("int")
	case 2:
		return plainShape("bool")
	case 3:
		return plainShape("unit")
	case 4:
		return listShape(plainShape("int"))
	case 5:
		return listShape(m.shape(deep - 1))
	case 6:
		return pairShape(m.shape(deep-1), m.shape(deep-1))
	}
	return fnShape(m.shape(deep-1), m.shape(deep-1))
}

// uses are the names that stand for a shape and are not hidden by an inner one.
func uses(is shape, known []knownName) []string {
	var names []string
	for i, k := range known {
		hidden := slices.ContainsFunc(known[i+1:], func(l knownName) bool { return l.name == k.name })
		if !hidden && sameShape(k.is, is) {
			names = append(names, k.name)
		}
	}
	return names
}

func with(known []knownName, name string, is shape) []knownName {
	return append(slices.Clone(known), knownName{name, is})
}

// small is a tree of a shape that is as small as can be.
func (m fitter) small(is shape, known []knownName) []node {
	if names := uses(is, known); len(names) > 0 && m.IntN(4) > 0 {
		return use(names[m.IntN(len(names))])
	}
	switch is.word {
	case "int":
		return num(m.IntN(4))
	case "bool":
		return []node{{Kind: impl.NBool, Num: m.IntN(2)}}
	case "unit":
		return unit()
	case "list":
		return []node{{Kind: impl.NNil}}
	case "pair":
		return over(kind(impl.NPair), m.small(is.parts[0], known), m.small(is.parts[1], known))
	}
	name := m.name()
	return over(named(impl.NFn, name), m.small(is.parts[1], with(known, name, is.parts[0])))
}

// fit is a tree of a shape, made of the names that are known.
func (m fitter) fit(is shape, known []knownName, deep int) []node {
	if deep <= 0 {
		return m.small(is, known)
	}
	switch m.IntN(14) {
	case 0:
		return m.small(is, known)
	case 1, 2:
		return m.fitApp(is, known, deep)
	case 3:
		name, value := m.name(), m.shape(1)
		return over(named(impl.NLet, name), m.fit(value, known, deep-1), m.fit(is, with(known, name, value), deep-1))
	case 4:
		return m.fitRec(is, known, deep)
	case 5:
		return over(kind(impl.NIf), m.fit(plainShape("bool"), known, deep-2), m.fit(is, known, deep-1), m.fit(is, known, deep-1))
	case 6:
		return m.fitCase(is, known, deep)
	case 7:
		return over(kind(impl.NFst), m.fit(pairShape(is, m.shape(0)), known, deep-1))
	case 8, 9:
		if !m.bare {
			return m.fitHandler(is, known, deep)
		}
	case 10:
		name := m.name()
		printed := over(kind(impl.NPrint), m.fit(plainShape("int"), known, deep-2))
		return over(named(impl.NLet, name), printed, m.fit(is, with(known, name, plainShape("unit")), deep-1))
	}
	return m.fitOwn(is, known, deep)
}

func (m fitter) fitApp(is shape, known []knownName, deep int) []node {
	arg := m.shape(1)
	return over(kind(impl.NApp), m.fit(fnShape(arg, is), known, deep-1), m.fit(arg, known, deep-1))
}

func (m fitter) fitRec(is shape, known []knownName, deep int) []node {
	name, arg := m.name(), m.name()
	given, gives := m.shape(0), m.shape(1)
	inner := with(known, name, fnShape(given, gives))
	return over(named(impl.NRec, name, arg), m.fit(gives, with(inner, arg, given), deep-1), m.fit(is, inner, deep-1))
}

func (m fitter) fitCase(is shape, known []knownName, deep int) []node {
	a, b := m.twoNames()
	of := m.shape(1)
	full := with(with(known, a, of), b, listShape(of))
	return over(named(impl.NCase, a, b), m.fit(listShape(of), known, deep-1), m.fit(is, known, deep-1), m.fit(is, full, deep-1))
}

func (m fitter) fitHandler(is shape, known []knownName, deep int) []node {
	k := []int{impl.NDeep, impl.NShallow}[m.IntN(2)]
	body := is
	if m.IntN(2) == 0 {
		body = m.shape(1)
	}
	ret := m.name()
	kids := [][]node{m.fit(body, known, deep-1), over(named(impl.NRet, ret), m.fit(is, with(known, ret, body), deep-2))}
	for _, e := range m.effs {
		if m.IntN(2) == 0 {
			continue
		}
		b, c := m.twoNames()
		gives := is
		if k == impl.NShallow {
			gives = body
		}
		inner := with(with(known, b, baseShape(e.Arg)), c, fnShape(baseShape(e.Res), gives))
		kids = append(kids, over(named(impl.NOp, e.Name, b, c), m.fit(is, inner, deep-2)))
	}
	return over(kind(k), kids...)
}

// fitOwn is a tree that begins with what makes such a shape.
func (m fitter) fitOwn(is shape, known []knownName, deep int) []node {
	for _, e := range m.effs {
		if sameShape(baseShape(e.Res), is) && m.IntN(2) == 0 {
			return over(named(impl.NDo, e.Name), m.fit(baseShape(e.Arg), known, deep-1))
		}
	}
	whole := plainShape("int")
	switch is.word {
	case "int":
		return over(kind(impl.NAdd+m.IntN(3)), m.fit(whole, known, deep-1), m.fit(whole, known, deep-1))
	case "bool":
		return over(kind(impl.NEq+m.IntN(2)), m.fit(whole, known, deep-1), m.fit(whole, known, deep-1))
	case "unit":
		return over(kind(impl.NPrint), m.fit(whole, known, deep-1))
	case "list":
		return over(kind(impl.NCons), m.fit(is.parts[0], known, deep-1), m.fit(is, known, deep-1))
	case "pair":
		return over(kind(impl.NPair), m.fit(is.parts[0], known, deep-1), m.fit(is.parts[1], known, deep-1))
	}
	name := m.name()
	return over(named(impl.NFn, name), m.fit(is.parts[1], with(known, name, is.parts[0]), deep-1))
}

// whole is a program that fits.
func (m fitter) whole(t *testing.T) prog {
	t.Helper()
	for {
		tree := m.fit(m.shape(1), nil, 2+m.IntN(6))
		if len(tree) <= impl.TreeMaxNodes {
			p := program(m.effs, tree)
			if !impl.ProgOk(p) || len(impl.TreeFree(tree)) > 0 {
				t.Fatalf("refused: %v", tree)
			}
			return p
		}
	}
}

// places are those of a tree's expressions, clauses left out.
func places(tree []node) []int {
	var found []int
	for i, n := range tree {
		if n.Kind != impl.NRet && n.Kind != impl.NOp {
			found = append(found, i)
		}
	}
	return found
}

// grafted is a tree with another one in the place of what is at that one.
func grafted(tree []node, at int, other []node) []node {
	return join(tree[:at], other, tree[impl.TreeEnd(tree, at):])
}

// mixed is a program like one that fits, but for a part that stands in the place of another: it may clash, or have free names.
func (m fitter) mixed(t *testing.T) prog {
	t.Helper()
	for {
		p := m.whole(t)
		for range 1 + m.IntN(2) {
			from, to := places(p.Tree), places(p.Tree)
			at := from[m.IntN(len(from))]
			part := slices.Clone(p.Tree[at:impl.TreeEnd(p.Tree, at)])
			p.Tree = grafted(p.Tree, to[m.IntN(len(to))], part)
		}
		if impl.ProgOk(p) {
			return p
		}
	}
}

// handledWhole is a program with a handler of all its operations around it.
func handledWhole(p prog, k int) prog {
	given := map[int][]node{impl.BaseInt: num(2), impl.BaseBool: {{Kind: impl.NBool, Num: 1}}, impl.BaseUnit: unit(), impl.BaseList: {{Kind: impl.NNil}}}
	kids := [][]node{p.Tree, over(named(impl.NRet, "r"), use("r"))}
	for _, e := range p.Effs {
		kids = append(kids, over(named(impl.NOp, e.Name, "u", "k"), over(kind(impl.NApp), use("k"), given[e.Res])))
	}
	return program(p.Effs, over(kind(k), kids...))
}

// wild is a tree in which nothing is free, whether it fits or not; functions, lets and uses are most of it.
func (m fitter) wild(known []string, deep int) []node {
	if len(known) > 0 && (deep <= 0 || m.IntN(4) == 0) {
		return use(known[m.IntN(len(known))])
	}
	if deep <= 0 {
		return m.leafOf(m.IntN(5))
	}
	kid := func(names ...string) []node { return m.wild(slices.Concat(known, names), deep-1) }
	a, b := m.twoNames()
	switch m.IntN(16) {
	case 0, 1, 2:
		return over(named(impl.NFn, a), kid(a))
	case 3, 4:
		return over(named(impl.NLet, a), over(named(impl.NFn, b), m.wild(append(slices.Clone(known), b), deep-2)), kid(a))
	case 5:
		return over(named(impl.NLet, a), kid(), kid(a))
	case 6:
		return over(named(impl.NRec, a, b), kid(a, b), kid(a))
	case 7, 8, 9:
		return over(kind(impl.NApp), kid(), kid())
	case 10:
		return over(kind(impl.NPair), kid(), kid())
	case 11:
		return over(kind(impl.NFst+m.IntN(2)), kid())
	case 12:
		return over(kind(impl.NCons), kid(), kid())
	case 13:
		return over(named(impl.NCase, a, b), kid(), kid(), kid(a, b))
	case 14:
		return over(named(impl.NDo, m.op()), kid())
	}
	k := []int{impl.NDeep, impl.NShallow}[m.IntN(2)]
	return over(kind(k), kid(), over(named(impl.NRet, a), kid(a)), over(named(impl.NOp, m.op(), a, b), kid(a, b)))
}

func (m fitter) leafOf(which int) []node {
	return [][]node{num(1), {{Kind: impl.NBool, Num: 1}}, unit(), {{Kind: impl.NNil}}, over(named(impl.NFn, "x"), use("x"))}[which]
}

// wildWhole is a program of a wild tree.
func (m fitter) wildWhole() prog {
	for {
		if p := program(m.effs, m.wild(nil, 2+m.IntN(5))); impl.ProgOk(p) {
			return p
		}
	}
}
