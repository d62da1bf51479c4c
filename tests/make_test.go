package tests

import (
	"math/rand/v2"
	"slices"
	"strings"
	"testing"

	"loop.example/handrail/impl"
)

type (
	node = impl.Node
	prog = impl.Prog
	eff  = impl.Eff
)

// dice is a source of numbers that are the same at each run.
func dice(seed uint64) *rand.Rand {
	return rand.New(rand.NewPCG(seed, 1))
}

func sameProg(a, b prog) bool {
	return slices.Equal(a.Effs, b.Effs) && slices.Equal(a.Tree, b.Tree)
}

// join lays nodes one behind the other.
func join(parts ...[]node) []node {
	return slices.Concat(parts...)
}

// over is a node with kids beneath it.
func over(n node, kids ...[]node) []node {
	n.Kids = len(kids)
	return append([]node{n}, join(kids...)...)
}

func num(n int) []node       { return []node{{Kind: impl.NInt, Num: n}} }
func use(name string) []node { return []node{{Kind: impl.NVar, A: name}} }
func unit() []node           { return []node{{Kind: impl.NUnit}} }
func kind(k int) node        { return node{Kind: k} }
func named(k int, names ...string) node {
	names = append(names, "", "", "")
	return node{Kind: k, A: names[0], B: names[1], C: names[2]}
}

// op is an operation.
func op(name string, arg int, res int) eff {
	return eff{Name: name, Arg: arg, Res: res}
}

// program is a tree with operations.
func program(effs []eff, tree []node) prog {
	return prog{Effs: effs, Tree: tree}
}

// nested is a tree so deep: functions around a number.
func nested(deep int) []node {
	t := num(1)
	for range deep - 1 {
		t = over(named(impl.NFn, "x"), t)
	}
	return t
}

// sized is a tree of so many nodes that is not deep.
func sized(nodes int) []node {
	if nodes < 3 {
		return nested(nodes)
	}
	left := (nodes - 1) / 2
	return over(kind(impl.NAdd), sized(left), sized(nodes-1-left))
}

// handlerOf is a handler of a number, with a clause for each operation.
func handlerOf(k int, ops ...string) []node {
	kids := [][]node{num(1), over(named(impl.NRet, "r"), use("r"))}
	for _, op := range ops {
		kids = append(kids, over(named(impl.NOp, op, "u", "k"), use("u")))
	}
	return over(kind(k), kids...)
}

// manyEffs are so many operations, all of them fine.
func manyEffs(n int) []eff {
	var effs []eff
	for i := range n {
		effs = append(effs, op(string(rune('a'+i)), impl.BaseInt, impl.BaseList))
	}
	return effs
}

// askEffs are the operations of programs that are made.
func askEffs() []eff {
	return []eff{op("ask", impl.BaseUnit, impl.BaseInt), op("x", impl.BaseList, impl.BaseBool), op("tell", impl.BaseInt, impl.BaseUnit)}
}

// maker makes trees by chance.
type maker struct {
	*rand.Rand
	names []string
}

func newMaker(seed uint64) maker {
	return maker{Rand: dice(seed), names: []string{"a", "b", "f", "x", "ask", "longname", "v0", "v1", "k9"}}
}

func (m maker) name() string {
	return m.names[m.IntN(len(m.names))]
}

// twoNames are two names that are unlike.
func (m maker) twoNames() (string, string) {
	a, b := m.name(), m.name()
	for a == b {
		b = m.name()
	}
	return a, b
}

func (m maker) leaf() []node {
	switch m.IntN(8) {
	case 0:
		return num([]int{0, 1, 42, impl.LexMaxNum}[m.IntN(4)])
	case 1:
		return []node{{Kind: impl.NBool, Num: m.IntN(2)}}
	case 2:
		return unit()
	case 3:
		return []node{{Kind: impl.NNil}}
	}
	return use(m.name())
}

// tree is one at most so deep.
func (m maker) tree(deep int) []node {
	if deep <= 1 || m.IntN(6) == 0 {
		return m.leaf()
	}
	kid := func() []node { return m.tree(deep - 1) }
	k := impl.NFn + m.IntN(impl.NShallow-impl.NFn+1)
	switch k {
	case impl.NFn:
		return over(named(k, m.name()), kid())
	case impl.NDo:
		return over(named(k, m.op()), kid())
	case impl.NFst, impl.NSnd, impl.NPrint:
		return over(kind(k), kid())
	case impl.NLet:
		return over(named(k, m.name()), kid(), kid())
	case impl.NRec:
		return over(named(k, m.name(), m.name()), kid(), kid())
	case impl.NIf:
		return over(kind(k), kid(), kid(), kid())
	case impl.NCase:
		a, b := m.twoNames()
		return over(named(k, a, b), kid(), kid(), kid())
	case impl.NDeep, impl.NShallow:
		return m.handler(k, deep)
	}
	return over(kind(k), kid(), kid())
}

func (m maker) op() string {
	return askEffs()[m.IntN(3)].Name
}

func (m maker) handler(k int, deep int) []node {
	kids := [][]node{m.tree(deep - 1), over(named(impl.NRet, m.name()), m.tree(deep-2))}
	for _, e := range askEffs() {
		if m.IntN(2) == 0 {
			b, c := m.twoNames()
			kids = append(kids, over(named(impl.NOp, e.Name, b, c), m.tree(deep-2)))
		}
	}
	return over(kind(k), kids...)
}

// someTrees are so many trees that are fine, large and small.
func someTrees(t *testing.T, seed uint64, many int) [][]node {
	t.Helper()
	m := newMaker(seed)
	var trees [][]node
	for len(trees) < many {
		tree := m.tree(1 + m.IntN(7))
		if len(tree) > impl.TreeMaxNodes {
			continue
		}
		if !impl.TreeOk(tree) {
			t.Fatalf("refused: %v", tree)
		}
		trees = append(trees, tree)
	}
	return trees
}

// eachParent calls for each place where a kid may be, with a tree that has it there.
func eachParent(kid []node, call func(tree []node)) {
	a, z := use("a"), use("z")
	for _, k := range []int{impl.NApp, impl.NAdd, impl.NSub, impl.NMul, impl.NEq, impl.NLt, impl.NPair, impl.NCons} {
		call(over(kind(k), kid, z))
		call(over(kind(k), a, kid))
	}
	for _, k := range []int{impl.NFst, impl.NSnd, impl.NPrint} {
		call(over(kind(k), kid))
	}
	call(over(named(impl.NFn, "x"), kid))
	call(over(named(impl.NDo, "ask"), kid))
	for _, n := range []node{named(impl.NLet, "x"), named(impl.NRec, "f", "x")} {
		call(over(n, kid, z))
		call(over(n, a, kid))
	}
	for _, n := range []node{kind(impl.NIf), named(impl.NCase, "h", "t")} {
		call(over(n, kid, a, z))
		call(over(n, a, kid, z))
		call(over(n, a, z, kid))
	}
	ret := named(impl.NRet, "r")
	ask, tell := named(impl.NOp, "ask", "u", "k"), named(impl.NOp, "tell", "u", "k")
	for _, k := range []int{impl.NDeep, impl.NShallow} {
		call(over(kind(k), kid, over(ret, a)))
		call(over(kind(k), a, over(ret, kid)))
		call(over(kind(k), a, over(ret, kid), over(ask, z)))
		call(over(kind(k), a, over(ret, z), over(ask, kid), over(tell, z)))
		call(over(kind(k), a, over(ret, z), over(tell, a), over(ask, kid)))
	}
}

// eachSmall calls for one tree of each kind, and each place for a kid.
func eachSmall(call func(tree []node)) {
	for _, leaf := range [][]node{num(7), {{Kind: impl.NBool, Num: 1}}, {{Kind: impl.NBool}}, unit(), {{Kind: impl.NNil}}, use("y")} {
		call(leaf)
	}
	eachParent(use("y"), call)
}

// withSpare is a list with spare room behind its end, filled with a mark that must stay there.
func withSpare[T comparable](list []T, mark T) []T {
	room := append(slices.Clone(list), mark, mark, mark)
	return room[:len(list)]
}

// spareKept tells whether the mark is still there.
func spareKept[T comparable](list []T, mark T) bool {
	room := list[:len(list)+3]
	return room[len(list)] == mark && room[len(list)+1] == mark && room[len(list)+2] == mark
}

func repeated(part string, many int) string {
	return strings.Repeat(part, many)
}
