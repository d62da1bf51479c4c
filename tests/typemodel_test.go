package tests

import (
	"slices"
	"strconv"
	"strings"
	"testing"

	"loop.example/handrail/impl"
)

// The model of types has no variables that stand for any: where such a name is used, what it stands for is gone through anew.
// It gathers all equations first, and solves them then.

type modelType struct {
	word  string // int, bool, unit, list, pair, fn; empty: the variable of that number
	num   int
	parts []modelType
	set   int
}

// modelName is a known name: a type, or, if at is not -1, the node at that place, gone through with what is known around it.
type modelName struct {
	name   string
	is     modelType
	at     int
	around []modelName
}

type modelFlow struct {
	from, to int
	but      []string
}

// modelTypes are a program's equations. Sets are numbered by the places of the nodes that bring them along, the whole's is -1.
type modelTypes struct {
	p         prog
	vars      int
	visits    int
	equations [][2]modelType
	flows     []modelFlow
	performed map[int][]string
	same      [][2]int
	solved    map[int]modelType
}

const modelMaxVisits = 20000

func (m *modelTypes) variable() modelType {
	m.vars++
	return modelType{num: m.vars}
}

func (m *modelTypes) equal(a, b modelType) {
	m.equations = append(m.equations, [2]modelType{a, b})
}

func modelPlainType(word string, parts ...modelType) modelType {
	return modelType{word: word, parts: parts}
}

func modelFn(arg, res modelType, set int) modelType {
	return modelType{word: "fn", parts: []modelType{arg, res}, set: set}
}

func modelBase(base int) modelType {
	integer := modelPlainType("int")
	return []modelType{{}, integer, modelPlainType("bool"), modelPlainType("unit"), modelPlainType("list", integer)}[base]
}

func kidPlaces(tree []node, at int) []int {
	var kids []int
	kid := at + 1
	for range tree[at].Kids {
		kids = append(kids, kid)
		kid = impl.TreeEnd(tree, kid)
	}
	return kids
}

func knowing(known []modelName, names ...modelName) []modelName {
	return append(slices.Clone(known), names...)
}

func mono(name string, is modelType) modelName {
	return modelName{name: name, is: is, at: -1}
}

func (m *modelTypes) eff(name string) eff {
	return m.p.Effs[slices.IndexFunc(m.p.Effs, func(e eff) bool { return e.Name == name })]
}

// of is the type of the node at a place.
func (m *modelTypes) of(at int, known []modelName, set int) modelType {
	m.visits++
	if m.visits > modelMaxVisits {
		return m.variable()
	}
	n, kids := m.p.Tree[at], kidPlaces(m.p.Tree, at)
	integer, boolean := modelPlainType("int"), modelPlainType("bool")
	kid := func(i int) modelType { return m.of(kids[i], known, set) }
	switch n.Kind {
	case impl.NInt:
		return integer
	case impl.NBool:
		return boolean
	case impl.NUnit:
		return modelPlainType("unit")
	case impl.NNil:
		return modelPlainType("list", m.variable())
	case impl.NVar:
		return m.ofName(n.A, known)
	case impl.NFn:
		arg := m.variable()
		return modelFn(arg, m.of(kids[0], knowing(known, mono(n.A, arg)), at), at)
	case impl.NApp:
		res := m.variable()
		m.equal(kid(0), modelFn(kid(1), res, at))
		m.flows = append(m.flows, modelFlow{from: at, to: set})
		return res
	case impl.NLet:
		name := mono(n.A, kid(0))
		if m.p.Tree[kids[0]].Kind == impl.NFn {
			name.at, name.around = kids[0], known
		}
		return m.of(kids[1], knowing(known, name), set)
	case impl.NRec:
		m.ofRec(at, known)
		return m.of(kids[1], knowing(known, modelName{name: n.A, at: at, around: known}), set)
	case impl.NIf:
		m.equal(kid(0), boolean)
		yes := kid(1)
		m.equal(yes, kid(2))
		return yes
	case impl.NAdd, impl.NSub, impl.NMul, impl.NEq, impl.NLt:
		m.equal(kid(0), integer)
		m.equal(kid(1), integer)
		if n.Kind == impl.NEq || n.Kind == impl.NLt {
			return boolean
		}
		return integer
	}
	return m.ofData(at, kids, known, set)
}

func (m *modelTypes) ofData(at int, kids []int, known []modelName, set int) modelType {
	n := m.p.Tree[at]
	kid := func(i int) modelType { return m.of(kids[i], known, set) }
	switch n.Kind {
	case impl.NPair:
		return modelPlainType("pair", kid(0), kid(1))
	case impl.NFst, impl.NSnd:
		parts := []modelType{m.variable(), m.variable()}
		m.equal(kid(0), modelPlainType("pair", parts...))
		return parts[n.Kind-impl.NFst]
	case impl.NCons:
		list := modelPlainType("list", kid(0))
		m.equal(list, kid(1))
		return list
	case impl.NCase:
		head := m.variable()
		list := modelPlainType("list", head)
		m.equal(list, kid(0))
		empty := kid(1)
		m.equal(empty, m.of(kids[2], knowing(known, mono(n.A, head), mono(n.B, list)), set))
		return empty
	case impl.NPrint:
		m.equal(kid(0), modelPlainType("int"))
		return modelPlainType("unit")
	case impl.NDo:
		m.equal(kid(0), modelBase(m.eff(n.A).Arg))
		m.performed[set] = append(m.performed[set], n.A)
		return modelBase(m.eff(n.A).Res)
	}
	return m.ofHandler(at, kids, known, set)
}

func (m *modelTypes) ofHandler(at int, kids []int, known []modelName, set int) modelType {
	body := m.of(kids[0], known, at)
	flow := modelFlow{from: at, to: set}
	var whole modelType
	for i, clause := range kids[1:] {
		c := m.p.Tree[clause]
		if i == 0 {
			whole = m.of(clause+1, knowing(known, mono(c.A, body)), set)
			continue
		}
		flow.but = append(flow.but, c.A)
		e := m.eff(c.A)
		cont := modelFn(modelBase(e.Res), whole, set)
		if m.p.Tree[at].Kind == impl.NShallow {
			cont = modelFn(modelBase(e.Res), body, at)
		}
		m.equal(whole, m.of(clause+1, knowing(known, mono(c.B, modelBase(e.Arg)), mono(c.C, cont)), set))
	}
	m.flows = append(m.flows, flow)
	return whole
}

// ofRec is the type of the function that the NRec at a place makes.
func (m *modelTypes) ofRec(at int, known []modelName) modelType {
	n := m.p.Tree[at]
	arg, res := m.variable(), m.variable()
	fn := modelFn(arg, res, at)
	m.equal(res, m.of(at+1, knowing(known, mono(n.A, fn), mono(n.B, arg)), at))
	return fn
}

func (m *modelTypes) ofName(name string, known []modelName) modelType {
	for _, k := range slices.Backward(known) {
		if k.name != name {
			continue
		}
		switch {
		case k.at < 0:
			return k.is
		case m.p.Tree[k.at].Kind == impl.NRec:
			return m.ofRec(k.at, k.around)
		}
		// The set around a function is not touched by it.
		return m.of(k.at, k.around, -2)
	}
	panic("free: " + name)
}

// put is a type with what is known of its variables.
func (m *modelTypes) put(t modelType) modelType {
	if t.word == "" {
		if is, ok := m.solved[t.num]; ok {
			return m.put(is)
		}
		return t
	}
	parts := slices.Clone(t.parts)
	for i := range parts {
		parts[i] = m.put(parts[i])
	}
	t.parts = parts
	return t
}

func modelHas(t modelType, num int) bool {
	return t.word == "" && t.num == num || slices.ContainsFunc(t.parts, func(p modelType) bool { return modelHas(p, num) })
}

// solve solves the equations, and tells whether they can be.
func (m *modelTypes) solve() bool {
	for len(m.equations) > 0 {
		a, b := m.put(m.equations[0][0]), m.put(m.equations[0][1])
		m.equations = m.equations[1:]
		if a.word != "" && b.word == "" {
			a, b = b, a
		}
		switch {
		case a.word == "" && b.word == "" && a.num == b.num:
		case a.word == "":
			if modelHas(b, a.num) {
				return false
			}
			m.solved[a.num] = b
		case a.word != b.word:
			return false
		default:
			for i := range a.parts {
				m.equal(a.parts[i], b.parts[i])
			}
			if a.word == "fn" {
				m.same = append(m.same, [2]int{a.set, b.set})
			}
		}
	}
	return true
}

// sets are the least ones.
func (m *modelTypes) sets() map[int][]string {
	sets := m.performed
	grown := true
	flow := func(from, to int, but []string) {
		for _, op := range sets[from] {
			if !slices.Contains(but, op) && !slices.Contains(sets[to], op) {
				sets[to] = append(sets[to], op)
				grown = true
			}
		}
	}
	for grown {
		grown = false
		for _, s := range m.same {
			flow(s[0], s[1], nil)
			flow(s[1], s[0], nil)
		}
		for _, f := range m.flows {
			flow(f.from, f.to, f.but)
		}
	}
	for _, set := range sets {
		slices.Sort(set)
	}
	return sets
}

// modelTypeText writes a type whose variables are put; a brace stands where brackets may be needed.
func modelTypeText(t modelType, sets map[int][]string, met *[]int) string {
	bracketed := func(p modelType, words string) string {
		text := modelTypeText(p, sets, met)
		if p.word != "" && strings.Contains(words, p.word) {
			return "(" + text + ")"
		}
		return text
	}
	switch t.word {
	case "":
		if !slices.Contains(*met, t.num) {
			*met = append(*met, t.num)
		}
		return "'" + strconv.Itoa(slices.Index(*met, t.num))
	case "list":
		return bracketed(t.parts[0], "pair fn") + " list"
	case "pair":
		return bracketed(t.parts[0], "pair fn") + " * " + bracketed(t.parts[1], "pair fn")
	case "fn":
		arrow := "->"
		if len(sets[t.set]) > 0 {
			arrow = "-[" + strings.Join(slices.Compact(slices.Clone(sets[t.set])), " ") + "]->"
		}
		return bracketed(t.parts[0], "fn") + " " + arrow + " " + bracketed(t.parts[1], "")
	}
	return t.word
}

// modelTyped is what TypeOf and TypeEffs should tell of a program that is ok, and whether the model could tell.
func modelTyped(p prog) (text string, code int, effs []string, told bool) {
	if len(modelFree(p.Tree)) > 0 {
		return "", impl.TypeFree, nil, true
	}
	m := &modelTypes{p: p, performed: map[int][]string{}, solved: map[int]modelType{}}
	whole := m.of(0, nil, -1)
	if m.visits > modelMaxVisits {
		return "", 0, nil, false
	}
	if !m.solve() {
		return "", impl.TypeClash, nil, true
	}
	sets := m.sets()
	effs = slices.Compact(slices.Clone(sets[-1]))
	if len(effs) > 0 {
		return "", impl.TypeEffects, effs, true
	}
	var met []int
	return modelTypeText(m.put(whole), sets, &met), impl.TypeOk, nil, true
}

// checkTyped holds a program's types against the model's, and answers the code.
func checkTyped(t *testing.T, p prog) int {
	t.Helper()
	text, code := impl.TypeOf(p)
	effs, ok := impl.TypeEffs(p)
	wantText, wantCode, wantEffs, told := modelTyped(p)
	if !told {
		return -1
	}
	if text != wantText || code != wantCode {
		t.Fatalf("%s: %q %d, not %q %d", impl.ProgText(p), text, code, wantText, wantCode)
	}
	if wantOk := code == impl.TypeOk || code == impl.TypeEffects; ok != wantOk || !slices.Equal(effs, wantEffs) {
		t.Fatalf("%s: %q %v, not %q", impl.ProgText(p), effs, ok, wantEffs)
	}
	return code
}
