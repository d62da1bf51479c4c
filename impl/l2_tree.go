package impl

import (
	"slices"
	"strconv"
	"strings"
)

// Limits of programs.
const (
	TreeMaxNodes = 300
	TreeMaxDeep  = 40
	TreeMaxEffs  = 8
	TreeMaxOps   = 4
)

// Kinds of nodes.
const (
	NInt     = 1
	NBool    = 2
	NUnit    = 3
	NNil     = 4
	NVar     = 5
	NFn      = 6
	NApp     = 7
	NLet     = 8
	NRec     = 9
	NIf      = 10
	NAdd     = 11
	NSub     = 12
	NMul     = 13
	NEq      = 14
	NLt      = 15
	NPair    = 16
	NFst     = 17
	NSnd     = 18
	NCons    = 19
	NCase    = 20
	NPrint   = 21
	NDo      = 22
	NDeep    = 23
	NShallow = 24
	NRet     = 25
	NOp      = 26
)

// Kinds of base types.
const (
	BaseInt  = 1
	BaseBool = 2
	BaseUnit = 3
	BaseList = 4
)

// Node is a part of a tree, ahead of all that is beneath it.
type Node struct {
	Kind int
	Num  int
	A    string
	B    string
	C    string
	Kids int
}

// Eff is an operation: its name, the base types of what it is given and what it gives.
type Eff struct {
	Name string
	Arg  int
	Res  int
}

// Prog is a program: its operations, and its tree.
type Prog struct {
	Effs []Eff
	Tree []Node
}

// TreeEnd is the place behind a node and all that is beneath it.
func TreeEnd(t []Node, at int) int {
	if at < 0 {
		return -1
	}
	owed := 1
	for ; owed > 0; at++ {
		// Each node that is owed needs a place: a tree that runs past the end is told ahead of it, so owed stays small.
		if owed > len(t)-at || t[at].Kids < 0 || t[at].Kids > len(t) {
			return -1
		}
		owed += t[at].Kids - 1
	}
	return at
}

// TreeOk tells whether nodes are a tree of an expression.
func TreeOk(t []Node) bool {
	if len(t) < 1 || len(t) > TreeMaxNodes {
		return false
	}
	for _, n := range t {
		if !nodeOk(n) {
			return false
		}
	}
	if TreeEnd(t, 0) != len(t) || !clausesOk(t) {
		return false
	}
	return deepOf(formOfTree(t)) <= TreeMaxDeep
}

// ProgOk tells whether a program may be.
func ProgOk(p Prog) bool {
	if len(p.Effs) > TreeMaxEffs || !TreeOk(p.Tree) {
		return false
	}
	for i, e := range p.Effs {
		if !LexNameOk(e.Name) || !baseOk(e.Arg) || !baseOk(e.Res) || hasEff(p.Effs[:i], e.Name) {
			return false
		}
	}
	for _, n := range p.Tree {
		if (n.Kind == NDo || n.Kind == NOp) && !hasEff(p.Effs, n.A) {
			return false
		}
	}
	return true
}

// ProgRead reads a program.
func ProgRead(text string) (Prog, Fault) {
	words, fault := LexWords(text)
	if fault.Code != 0 {
		return Prog{}, fault
	}
	effs, tree, fault := readWords(words, len(text))
	if fault.Code != 0 {
		return Prog{}, fault
	}
	p := Prog{Effs: effs, Tree: addNodes(nil, tree)}
	switch {
	case len(p.Tree) > TreeMaxNodes || len(p.Effs) > TreeMaxEffs:
		return Prog{}, Fault{Code: ErrMany}
	case deepOf(tree) > TreeMaxDeep:
		return Prog{}, Fault{Code: ErrDeep}
	case !ProgOk(p):
		return Prog{}, Fault{Code: ErrTwice}
	}
	return p, Fault{}
}

// ProgText writes a program.
func ProgText(p Prog) string {
	if !ProgOk(p) {
		return ""
	}
	var b strings.Builder
	for _, e := range p.Effs {
		b.WriteString("effect " + e.Name + " : " + baseText(e.Arg) + " => " + baseText(e.Res) + " ; ")
	}
	b.WriteString(formOfTree(p.Tree).text())
	return b.String()
}

// TreePlain names all that a tree makes known anew.
func TreePlain(t []Node) []Node {
	if !TreeOk(t) {
		return nil
	}
	var n namer
	n.walk(formOfTree(t), nil)
	if len(n.free) > 0 {
		return nil
	}
	return n.plain
}

// TreeFree is which names stand free in a tree.
func TreeFree(t []Node) []string {
	if !TreeOk(t) {
		return nil
	}
	var n namer
	n.walk(formOfTree(t), nil)
	slices.Sort(n.free)
	return slices.Compact(n.free)
}

// shape is what a kind of node has: so many of its names, A first; a greatest number; so many kids.
type shape struct {
	names     int
	mostNum   int
	leastKids int
	mostKids  int
}

// shapeOf is the shape of a kind of node, and whether there is such a kind.
func shapeOf(kind int) (shape, bool) {
	switch kind {
	case NInt:
		return shape{mostNum: LexMaxNum}, true
	case NBool:
		return shape{mostNum: 1}, true
	case NUnit, NNil:
		return shape{}, true
	case NVar:
		return shape{names: 1}, true
	case NFn, NDo, NRet:
		return shape{names: 1, leastKids: 1, mostKids: 1}, true
	case NFst, NSnd, NPrint:
		return shape{leastKids: 1, mostKids: 1}, true
	case NApp, NAdd, NSub, NMul, NEq, NLt, NPair, NCons:
		return shape{leastKids: 2, mostKids: 2}, true
	case NLet:
		return shape{names: 1, leastKids: 2, mostKids: 2}, true
	case NRec:
		return shape{names: 2, leastKids: 2, mostKids: 2}, true
	case NIf:
		return shape{leastKids: 3, mostKids: 3}, true
	case NCase:
		return shape{names: 2, leastKids: 3, mostKids: 3}, true
	case NDeep, NShallow:
		return shape{leastKids: 2, mostKids: 2 + TreeMaxOps}, true
	case NOp:
		return shape{names: 3, leastKids: 1, mostKids: 1}, true
	}
	return shape{}, false
}

// nodeOk tells whether a node has the fields and Kids of its Kind.
func nodeOk(n Node) bool {
	s, known := shapeOf(n.Kind)
	if !known || n.Num < 0 || n.Num > s.mostNum || n.Kids < s.leastKids || n.Kids > s.mostKids {
		return false
	}
	for i, name := range []string{n.A, n.B, n.C} {
		if i < s.names && !LexNameOk(name) || i >= s.names && name != "" {
			return false
		}
	}
	return !(n.Kind == NCase && n.A == n.B || n.Kind == NOp && n.B == n.C)
}

// clausesOk tells of a tree that hangs together whether clauses stand behind a handler's body, as they must, and nowhere else.
func clausesOk(t []Node) bool {
	if clauseKind(t[0].Kind) != 0 {
		return false
	}
	for at, n := range t {
		var ops []string
		kid := at + 1
		for i := range n.Kids {
			k := t[kid]
			if clauseKind(k.Kind) != clauseWanted(n.Kind, i) || slices.Contains(ops, k.A) {
				return false
			}
			if k.Kind == NOp {
				ops = append(ops, k.A)
			}
			kid = TreeEnd(t, kid)
		}
	}
	return true
}

// clauseKind is the kind itself of clauses, 0 of all that is an expression.
func clauseKind(kind int) int {
	if kind == NRet || kind == NOp {
		return kind
	}
	return 0
}

// clauseWanted is which clause a kid must be, 0 if it must be an expression.
func clauseWanted(kind int, kid int) int {
	switch {
	case !isHandler(kind) || kid == 0:
		return 0
	case kid == 1:
		return NRet
	}
	return NOp
}

func isHandler(kind int) bool {
	return kind == NDeep || kind == NShallow
}

func baseOk(base int) bool {
	return base >= BaseInt && base <= BaseList
}

func hasEff(effs []Eff, name string) bool {
	return slices.ContainsFunc(effs, func(e Eff) bool { return e.Name == name })
}

func baseText(base int) string {
	switch base {
	case BaseInt:
		return "int"
	case BaseBool:
		return "bool"
	case BaseUnit:
		return "unit"
	}
	return "list"
}

// knownIn is which of a node's names that kid knows, the innermost one last.
func knownIn(n Node, kid int) []string {
	switch {
	case n.Kind == NFn || n.Kind == NRet:
		return []string{n.A}
	case n.Kind == NLet && kid == 1 || n.Kind == NRec && kid == 1:
		return []string{n.A}
	case n.Kind == NRec || n.Kind == NCase && kid == 2:
		return []string{n.A, n.B}
	case n.Kind == NOp:
		return []string{n.B, n.C}
	}
	return nil
}

// scope is a name that is known, what it stands for there, and what is known around it.
type scope[T any] struct {
	name   string
	is     T
	around *scope[T]
}

// with is a scope with one more name, the innermost one.
func (s *scope[T]) with(name string, is T) *scope[T] {
	return &scope[T]{name: name, is: is, around: s}
}

// find is what the innermost of that name stands for, and whether there is one.
func (s *scope[T]) find(name string) (T, bool) {
	for ; s != nil; s = s.around {
		if s.name == name {
			return s.is, true
		}
	}
	var none T
	return none, false
}

// namer goes through a tree in the order of its nodes, and keeps them with new names, and what it found free.
type namer struct {
	plain []Node
	free  []string
	made  int
}

func (n *namer) walk(f form, known *scope[string]) {
	old := nodeOf(f)
	plain := n.rename(old, known)
	n.plain = append(n.plain, plain)
	for i, kid := range f.kids() {
		inner := known
		anew := knownIn(plain, i)
		for j, name := range knownIn(old, i) {
			inner = inner.with(name, anew[j])
		}
		n.walk(kid, inner)
	}
}

// rename gives a node's names their new ones. Those it keeps are copied, since an answer shares no memory with the tree.
func (n *namer) rename(node Node, known *scope[string]) Node {
	switch node.Kind {
	case NVar:
		anew, found := known.find(node.A)
		if !found {
			n.free = append(n.free, strings.Clone(node.A))
		}
		node.A = anew
	case NFn, NLet, NRet:
		node.A = n.fresh()
	case NRec, NCase:
		node.A = n.fresh()
		node.B = n.fresh()
	case NDo:
		node.A = strings.Clone(node.A)
	case NOp:
		node.A = strings.Clone(node.A)
		node.B = n.fresh()
		node.C = n.fresh()
	}
	return node
}

func (n *namer) fresh() string {
	n.made++
	return "v" + strconv.Itoa(n.made-1)
}

// How tightly texts hold together: one stands without brackets wherever no tighter one is asked for.
const (
	levelExpr = iota
	levelCons
	levelComp
	levelSum
	levelProd
	levelCall
	levelAtom
)

// form is a node with all that is beneath it: its own fields, its kids in order, its text and how tight that is.
type form interface {
	node() Node
	kids() []form
	level() int
	text() string
}

// nodeOf is a form's node as it stands in a tree.
func nodeOf(f form) Node {
	n := f.node()
	n.Kids = len(f.kids())
	return n
}

// addNodes puts a form's nodes behind a list.
func addNodes(list []Node, f form) []Node {
	list = append(list, nodeOf(f))
	for _, kid := range f.kids() {
		list = addNodes(list, kid)
	}
	return list
}

func deepOf(f form) int {
	deepest := 0
	for _, kid := range f.kids() {
		deepest = max(deepest, deepOf(kid))
	}
	return deepest + 1
}

// within is a form's text where one at least so tight must stand.
func within(level int, f form) string {
	if f.level() < level {
		return "(" + f.text() + ")"
	}
	return f.text()
}

// formOfTree is the form of a tree whose nodes have the Kids of their Kinds and hang together.
func formOfTree(t []Node) form {
	f, _ := formAt(t, 0)
	return f
}

// formAt is the form of the node at a place, and the place behind it.
func formAt(t []Node, at int) (form, int) {
	n := t[at]
	kids := make([]form, n.Kids)
	at++
	for i := range kids {
		kids[i], at = formAt(t, at)
	}
	return formOf(n, kids), at
}

func formOf(n Node, kids []form) form {
	switch n.Kind {
	case NInt:
		return intForm{num: n.Num}
	case NBool:
		return boolForm{num: n.Num}
	case NUnit:
		return unitForm{}
	case NNil:
		return nilForm{}
	case NVar:
		return varForm{name: n.A}
	case NFn:
		return fnForm{name: n.A, body: kids[0]}
	case NApp:
		return appForm{fn: kids[0], arg: kids[1]}
	case NLet:
		return letForm{name: n.A, value: kids[0], body: kids[1]}
	case NRec:
		return recForm{name: n.A, arg: n.B, value: kids[0], body: kids[1]}
	case NIf:
		return ifForm{test: kids[0], yes: kids[1], no: kids[2]}
	case NPair:
		return pairForm{left: kids[0], right: kids[1]}
	case NFst, NSnd, NPrint:
		return takeForm{kind: n.Kind, arg: kids[0]}
	case NCons:
		return consForm{head: kids[0], rest: kids[1]}
	case NCase:
		return caseForm{list: kids[0], empty: kids[1], head: n.A, rest: n.B, full: kids[2]}
	case NDo:
		return doForm{op: n.A, arg: kids[0]}
	case NDeep, NShallow:
		return handlerForm{kind: n.Kind, body: kids[0], clauses: kids[1:]}
	case NRet:
		return retForm{name: n.A, body: kids[0]}
	case NOp:
		return opForm{op: n.A, arg: n.B, cont: n.C, body: kids[0]}
	}
	return signForm{kind: n.Kind, left: kids[0], right: kids[1]}
}

// leaf is what all forms without kids have in common.
type leaf struct{}

func (leaf) kids() []form { return nil }
func (leaf) level() int   { return levelAtom }

// open is what all forms have in common whose text goes on as far as it can.
type open struct{}

func (open) level() int { return levelExpr }

type intForm struct {
	leaf
	num int
}

func (f intForm) node() Node   { return Node{Kind: NInt, Num: f.num} }
func (f intForm) text() string { return strconv.Itoa(f.num) }

type boolForm struct {
	leaf
	num int
}

func (f boolForm) node() Node   { return Node{Kind: NBool, Num: f.num} }
func (f boolForm) text() string { return strconv.FormatBool(f.num == 1) }

type unitForm struct{ leaf }

func (f unitForm) node() Node   { return Node{Kind: NUnit} }
func (f unitForm) text() string { return "()" }

type nilForm struct{ leaf }

func (f nilForm) node() Node   { return Node{Kind: NNil} }
func (f nilForm) text() string { return "nil" }

type varForm struct {
	leaf
	name string
}

func (f varForm) node() Node   { return Node{Kind: NVar, A: f.name} }
func (f varForm) text() string { return f.name }

type fnForm struct {
	open
	name string
	body form
}

func (f fnForm) node() Node   { return Node{Kind: NFn, A: f.name} }
func (f fnForm) kids() []form { return []form{f.body} }
func (f fnForm) text() string { return "fn " + f.name + " -> " + f.body.text() }

type appForm struct {
	fn  form
	arg form
}

func (f appForm) node() Node   { return Node{Kind: NApp} }
func (f appForm) kids() []form { return []form{f.fn, f.arg} }
func (f appForm) level() int   { return levelCall }
func (f appForm) text() string { return within(levelCall, f.fn) + " " + within(levelAtom, f.arg) }

type letForm struct {
	open
	name  string
	value form
	body  form
}

func (f letForm) node() Node   { return Node{Kind: NLet, A: f.name} }
func (f letForm) kids() []form { return []form{f.value, f.body} }
func (f letForm) text() string {
	return "let " + f.name + " = " + f.value.text() + " in " + f.body.text()
}

type recForm struct {
	open
	name  string
	arg   string
	value form
	body  form
}

func (f recForm) node() Node   { return Node{Kind: NRec, A: f.name, B: f.arg} }
func (f recForm) kids() []form { return []form{f.value, f.body} }
func (f recForm) text() string {
	return "let rec " + f.name + " " + f.arg + " = " + f.value.text() + " in " + f.body.text()
}

type ifForm struct {
	open
	test form
	yes  form
	no   form
}

func (f ifForm) node() Node   { return Node{Kind: NIf} }
func (f ifForm) kids() []form { return []form{f.test, f.yes, f.no} }
func (f ifForm) text() string {
	return "if " + f.test.text() + " then " + f.yes.text() + " else " + f.no.text()
}

type signForm struct {
	kind  int
	left  form
	right form
}

func (f signForm) node() Node   { return Node{Kind: f.kind} }
func (f signForm) kids() []form { return []form{f.left, f.right} }

func (f signForm) level() int {
	switch f.kind {
	case NMul:
		return levelProd
	case NAdd, NSub:
		return levelSum
	}
	return levelComp
}

// text groups sums and products to the left; a comparison has none at either side.
func (f signForm) text() string {
	level := f.level()
	left := level
	if level == levelComp {
		left = levelSum
	}
	return within(left, f.left) + " " + signText(f.kind) + " " + within(level+1, f.right)
}

func signText(kind int) string {
	switch kind {
	case NAdd:
		return "+"
	case NSub:
		return "-"
	case NMul:
		return "*"
	case NEq:
		return "="
	}
	return "<"
}

type pairForm struct {
	left  form
	right form
}

func (f pairForm) node() Node   { return Node{Kind: NPair} }
func (f pairForm) kids() []form { return []form{f.left, f.right} }
func (f pairForm) level() int   { return levelAtom }
func (f pairForm) text() string { return "(" + f.left.text() + ", " + f.right.text() + ")" }

// takeForm is one of the keys that take an atom: fst, snd, print.
type takeForm struct {
	kind int
	arg  form
}

func (f takeForm) node() Node   { return Node{Kind: f.kind} }
func (f takeForm) kids() []form { return []form{f.arg} }
func (f takeForm) level() int   { return levelCall }
func (f takeForm) text() string { return takeText(f.kind) + " " + within(levelAtom, f.arg) }

func takeText(kind int) string {
	switch kind {
	case NFst:
		return "fst"
	case NSnd:
		return "snd"
	}
	return "print"
}

type consForm struct {
	head form
	rest form
}

func (f consForm) node() Node   { return Node{Kind: NCons} }
func (f consForm) kids() []form { return []form{f.head, f.rest} }
func (f consForm) level() int   { return levelCons }
func (f consForm) text() string {
	return within(levelComp, f.head) + " :: " + within(levelCons, f.rest)
}

type caseForm struct {
	open
	list  form
	empty form
	head  string
	rest  string
	full  form
}

func (f caseForm) node() Node   { return Node{Kind: NCase, A: f.head, B: f.rest} }
func (f caseForm) kids() []form { return []form{f.list, f.empty, f.full} }
func (f caseForm) text() string {
	return "case " + f.list.text() + " of nil -> " + f.empty.text() +
		" | " + f.head + " :: " + f.rest + " -> " + f.full.text()
}

type doForm struct {
	op  string
	arg form
}

func (f doForm) node() Node   { return Node{Kind: NDo, A: f.op} }
func (f doForm) kids() []form { return []form{f.arg} }
func (f doForm) level() int   { return levelCall }
func (f doForm) text() string { return "do " + f.op + " " + within(levelAtom, f.arg) }

type handlerForm struct {
	kind    int
	body    form
	clauses []form
}

func (f handlerForm) node() Node   { return Node{Kind: f.kind} }
func (f handlerForm) kids() []form { return append([]form{f.body}, f.clauses...) }
func (f handlerForm) level() int   { return levelAtom }

func (f handlerForm) text() string {
	key := "handle "
	if f.kind == NShallow {
		key = "shallow "
	}
	text := key + f.body.text() + " with"
	for _, clause := range f.clauses {
		text += " " + clause.text()
	}
	return text + " end"
}

type retForm struct {
	open
	name string
	body form
}

func (f retForm) node() Node   { return Node{Kind: NRet, A: f.name} }
func (f retForm) kids() []form { return []form{f.body} }
func (f retForm) text() string { return "ret " + f.name + " -> " + f.body.text() }

type opForm struct {
	open
	op   string
	arg  string
	cont string
	body form
}

func (f opForm) node() Node   { return Node{Kind: NOp, A: f.op, B: f.arg, C: f.cont} }
func (f opForm) kids() []form { return []form{f.body} }
func (f opForm) text() string {
	return "| " + f.op + " " + f.arg + " " + f.cont + " -> " + f.body.text()
}

// reader reads words from the left; size is the text's, the place of what lacks.
type reader struct {
	words []Word
	next  int
	size  int
}

// readWords is the reader's face: whatever part of it gives up, its panic ends here and is the fault.
func readWords(words []Word, size int) (effs []Eff, tree form, fault Fault) {
	defer func() {
		if gaveUp := recover(); gaveUp != nil {
			fault = gaveUp.(Fault)
		}
	}()
	r := reader{words: words, size: size}
	for r.sees("effect") {
		effs = append(effs, r.eff())
	}
	tree = r.expr()
	if r.next < len(words) {
		panic(r.misfit())
	}
	return effs, tree, Fault{}
}

// peek is the word that is read next; where words lack it has no text, and the text's size as its place.
func (r *reader) peek() Word {
	if r.next < len(r.words) {
		return r.words[r.next]
	}
	return Word{At: r.size}
}

// misfit is the fault of the word that is read next.
func (r *reader) misfit() Fault {
	return Fault{Code: ErrToken, At: r.peek().At}
}

// sees tells whether a key or sign is next. Its text suffices: no name and no number has it.
func (r *reader) sees(text string) bool {
	return r.peek().Text == text
}

// skips goes on behind a key or sign, if it is next.
func (r *reader) skips(text string) bool {
	if !r.sees(text) {
		return false
	}
	r.next++
	return true
}

// must goes on behind all of these keys and signs.
func (r *reader) must(texts ...string) {
	for _, text := range texts {
		if !r.skips(text) {
			panic(r.misfit())
		}
	}
}

func (r *reader) name() string {
	w := r.peek()
	if w.Kind != LexName {
		panic(r.misfit())
	}
	r.next++
	return w.Text
}

func (r *reader) eff() Eff {
	var e Eff
	r.must("effect")
	e.Name = r.name()
	r.must(":")
	e.Arg = r.base()
	r.must("=>")
	e.Res = r.base()
	r.must(";")
	return e
}

func (r *reader) base() int {
	for base := BaseInt; base <= BaseList; base++ {
		if r.skips(baseText(base)) {
			return base
		}
	}
	panic(r.misfit())
}

func (r *reader) expr() form {
	switch {
	case r.skips("let"):
		return r.letForm()
	case r.skips("if"):
		return r.ifForm()
	case r.skips("fn"):
		f := fnForm{name: r.name()}
		r.must("->")
		f.body = r.expr()
		return f
	case r.skips("case"):
		return r.caseForm()
	}
	return r.cons()
}

func (r *reader) letForm() form {
	if r.skips("rec") {
		return r.recForm()
	}
	f := letForm{name: r.name()}
	r.must("=")
	f.value = r.expr()
	r.must("in")
	f.body = r.expr()
	return f
}

func (r *reader) recForm() form {
	f := recForm{name: r.name()}
	f.arg = r.name()
	r.must("=")
	f.value = r.expr()
	r.must("in")
	f.body = r.expr()
	return f
}

func (r *reader) ifForm() form {
	f := ifForm{test: r.expr()}
	r.must("then")
	f.yes = r.expr()
	r.must("else")
	f.no = r.expr()
	return f
}

func (r *reader) caseForm() form {
	f := caseForm{list: r.expr()}
	r.must("of", "nil", "->")
	f.empty = r.expr()
	r.must("|")
	f.head = r.name()
	r.must("::")
	f.rest = r.name()
	r.must("->")
	f.full = r.expr()
	return f
}

func (r *reader) cons() form {
	head := r.comp()
	if r.skips("::") {
		return consForm{head: head, rest: r.cons()}
	}
	return head
}

func (r *reader) comp() form {
	left := r.sum()
	for kind := NEq; kind <= NLt; kind++ {
		if r.skips(signText(kind)) {
			return signForm{kind: kind, left: left, right: r.sum()}
		}
	}
	return left
}

func (r *reader) sum() form {
	left := r.prod()
	for {
		switch {
		case r.skips("+"):
			left = signForm{kind: NAdd, left: left, right: r.prod()}
		case r.skips("-"):
			left = signForm{kind: NSub, left: left, right: r.prod()}
		default:
			return left
		}
	}
}

func (r *reader) prod() form {
	left := r.call()
	for r.skips("*") {
		left = signForm{kind: NMul, left: left, right: r.call()}
	}
	return left
}

func (r *reader) call() form {
	f := r.callHead()
	for r.seesAtom() {
		f = appForm{fn: f, arg: r.atom()}
	}
	return f
}

func (r *reader) callHead() form {
	switch {
	case r.skips("fst"):
		return takeForm{kind: NFst, arg: r.atom()}
	case r.skips("snd"):
		return takeForm{kind: NSnd, arg: r.atom()}
	case r.skips("print"):
		return takeForm{kind: NPrint, arg: r.atom()}
	case r.skips("do"):
		f := doForm{op: r.name()}
		f.arg = r.atom()
		return f
	}
	return r.atom()
}

// seesAtom tells whether an atom begins with the word that is next.
func (r *reader) seesAtom() bool {
	w := r.peek()
	switch w.Text {
	case "true", "false", "nil", "(", "handle", "shallow":
		return true
	}
	return w.Kind == LexNum || w.Kind == LexName
}

func (r *reader) atom() form {
	switch {
	case r.peek().Kind == LexNum:
		return r.number()
	case r.peek().Kind == LexName:
		return varForm{name: r.name()}
	case r.skips("true"):
		return boolForm{num: 1}
	case r.skips("false"):
		return boolForm{num: 0}
	case r.skips("nil"):
		return nilForm{}
	case r.skips("("):
		return r.bracket()
	case r.skips("handle"):
		return r.handler(NDeep)
	case r.skips("shallow"):
		return r.handler(NShallow)
	}
	panic(r.misfit())
}

func (r *reader) number() form {
	num, err := strconv.Atoi(r.peek().Text)
	if err != nil {
		panic(r.misfit())
	}
	r.next++
	return intForm{num: num}
}

func (r *reader) bracket() form {
	if r.skips(")") {
		return unitForm{}
	}
	first := r.expr()
	if r.skips(",") {
		first = pairForm{left: first, right: r.expr()}
	}
	r.must(")")
	return first
}

func (r *reader) handler(kind int) form {
	f := handlerForm{kind: kind, body: r.expr()}
	r.must("with", "ret")
	ret := retForm{name: r.name()}
	r.must("->")
	ret.body = r.expr()
	f.clauses = append(f.clauses, ret)
	for r.skips("|") {
		f.clauses = append(f.clauses, r.opForm())
	}
	r.must("end")
	return f
}

func (r *reader) opForm() form {
	f := opForm{op: r.name()}
	f.arg = r.name()
	f.cont = r.name()
	r.must("->")
	f.body = r.expr()
	return f
}
