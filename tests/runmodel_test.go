package tests

import (
	"slices"
	"strconv"
	"strings"
	"testing"

	"loop.example/handrail/impl"
)

// modelMachine is the document's machine on the model of the heap. Its words stand in a map by the names that they have there.
type modelMachine struct {
	mem   *modelHeap
	code  []ins
	words map[string]int
	place int
	mode  string
	op    int
	scans int
	trace []int
	// what the step is doing, and how many objects it has made
	doing string
	made  int
	// where the spaces were changed: "look 2" is the second object of such a step
	flips map[string]int
}

// modelStop is how a run ends.
type modelStop int

func rootNames() []string {
	return []string{"Env", "Stk", "Meta", "Acc", "Ch", "Kr"}
}

func newModelMachine(c []ins, size int, scans int) *modelMachine {
	h := heap{Words: make([]int, 2*size), Size: size, Top: size, FromBottom: size, FromTop: 2 * size}
	m := &modelMachine{mem: &modelHeap{h, map[int]*modelObj{}, map[int]*modelObj{}}, code: c, words: map[string]int{}, mode: "code", scans: scans, flips: map[string]int{}}
	for _, name := range rootNames() {
		m.words[name] = unitWord
	}
	return m
}

// kind reads the first word of what a word leads to; of one that leads to nothing there is none.
func (m *modelMachine) kind(w int) int {
	if modelTag(w) != 0 {
		return 0
	}
	m.mem.h.Touched++
	return m.mem.used[modelNum(w)].kind
}

// of reads a field of what a word leads to; fields count from 1, as the document has them.
func (m *modelMachine) of(w int, field int) int {
	o := m.mem.used[modelNum(w)]
	if !m.mem.readField(o, field-1) {
		panic(modelStop(impl.EndMemory))
	}
	return o.fields[field-1]
}

// fresh makes an object, and sets a word to it, or none, if that has no name.
func (m *modelMachine) fresh(name string, kind int, fields ...int) int {
	m.made++
	var roots []int
	for _, root := range rootNames() {
		roots = append(roots, m.words[root])
	}
	flips := m.mem.h.Flips
	roots, w, ok := m.mem.add(roots, kind, fields, m.scans)
	if m.mem.h.Flips > flips {
		m.flips[m.doing+" "+strconv.Itoa(m.made)]++
	}
	if !ok {
		panic(modelStop(impl.EndMemory))
	}
	for i, root := range rootNames() {
		m.words[root] = roots[i]
	}
	if name != "" {
		m.words[name] = w
	}
	return w
}

func (m *modelMachine) push(w int) {
	m.fresh("Stk", impl.ObjCell, w, m.words["Stk"])
}

func (m *modelMachine) pop() int {
	top := m.words["Stk"]
	w := m.of(top, 1)
	m.words["Stk"] = m.of(top, 2)
	return w
}

func (m *modelMachine) frame(place int) {
	m.push(m.fresh("", impl.ObjFrame, intWord(place), m.words["Env"]))
}

func (m *modelMachine) given() {
	frame := m.pop()
	m.place = modelNum(m.of(frame, 1))
	m.words["Env"] = m.of(frame, 2)
	m.push(m.words["Acc"])
}

func stuckUnless(fine bool) {
	if !fine {
		panic(modelStop(impl.EndStuck))
	}
}

// step takes a step, and answers how it ends, or -1.
func (m *modelMachine) step() (end int) {
	end = -1
	defer func() {
		if stop := recover(); stop != nil {
			end = int(stop.(modelStop))
		}
	}()
	m.made = 0
	switch m.mode {
	case "look":
		m.look()
	case "back":
		m.back()
	default:
		i := m.code[m.place]
		m.place++
		m.doing = insForms()[i.Op].word
		if !m.plain(i) {
			m.other(i)
		}
	}
	return end
}

// plain does an instruction that needs no more than to push and pop; false of others.
func (m *modelMachine) plain(i ins) bool {
	switch i.Op {
	case impl.IHalt:
		m.words["Acc"] = m.pop()
		panic(modelStop(impl.EndDone))
	case impl.IInt:
		m.push(intWord(i.A))
	case impl.IBool:
		m.push([]int{noWord, yesWord}[i.A])
	case impl.IUnit:
		m.push(unitWord)
	case impl.INil:
		m.push(nilWord)
	case impl.ITest:
		w := m.pop()
		stuckUnless(modelTag(w) == 2)
		if w == noWord {
			m.place = i.A
		}
	case impl.IJump:
		m.place = i.A
	case impl.IArith:
		b := m.pop()
		a := m.pop()
		stuckUnless(modelTag(a) == 1 && modelTag(b) == 1)
		n := modelArith(i.A, modelNum(a), modelNum(b))
		m.push([]int{intWord(n), 8*n + 2}[i.A/impl.NEq])
	case impl.IPrint:
		w := m.pop()
		stuckUnless(modelTag(w) == 1)
		if len(m.trace) >= 200 {
			panic(modelStop(impl.EndFull))
		}
		m.trace = append(m.trace, modelNum(w))
		m.push(unitWord)
	case impl.IFst, impl.ISnd:
		w := m.pop()
		stuckUnless(m.kind(w) == impl.ObjPair)
		m.push(m.of(w, 1+i.Op-impl.IFst))
	case impl.IPair, impl.ICons:
		b := m.pop()
		a := m.pop()
		stuckUnless(i.Op == impl.IPair || modelTag(b) == 4 || m.kind(b) == impl.ObjCons)
		m.push(m.fresh("", map[int]int{impl.IPair: impl.ObjPair, impl.ICons: impl.ObjCons}[i.Op], a, b))
	default:
		return false
	}
	return true
}

// other does the instructions of names, calls and handlers.
func (m *modelMachine) other(i ins) {
	w := m.words
	switch i.Op {
	case impl.IVar:
		env := w["Env"]
		for n := 0; n < i.A; n++ {
			env = m.of(env, 2)
		}
		m.push(m.of(env, 1))
	case impl.IClos:
		m.push(m.fresh("", impl.ObjClos, intWord(i.A), w["Env"]))
	case impl.IRec:
		m.fresh("Acc", impl.ObjCell, unitWord, w["Env"])
		clos := m.fresh("", impl.ObjClos, intWord(i.A), w["Acc"])
		m.mem.used[modelNum(w["Acc"])].fields[0] = clos
		m.mem.h.Touched++
		m.push(clos)
	case impl.IRet:
		w["Acc"] = m.pop()
		m.given()
	case impl.IBind:
		v := m.pop()
		m.fresh("Env", impl.ObjCell, v, w["Env"])
	case impl.IDrop:
		w["Env"] = m.of(w["Env"], 2)
	case impl.ICase:
		w["Acc"] = m.pop()
		if modelTag(w["Acc"]) == 4 {
			m.place = i.A
			return
		}
		stuckUnless(m.kind(w["Acc"]) == impl.ObjCons)
		for field := 1; field <= 2; field++ {
			v := m.of(w["Acc"], field)
			m.fresh("Env", impl.ObjCell, v, w["Env"])
		}
	case impl.IApp:
		m.app()
	case impl.IHandle:
		m.frame(i.C)
		m.fresh("Meta", impl.ObjRec, intWord(i.A), intWord(i.B), w["Env"], w["Stk"], w["Meta"])
		w["Stk"] = unitWord
	case impl.IDone:
		m.done()
	case impl.IDo:
		w["Acc"] = m.pop()
		w["Ch"] = unitWord
		m.op = i.A
		m.mode = "look"
	}
}

func (m *modelMachine) app() {
	w := m.words
	w["Acc"] = m.pop()
	w["Kr"] = m.pop()
	kind := m.kind(w["Kr"])
	stuckUnless(kind == impl.ObjClos || kind == impl.ObjCont)
	if kind == impl.ObjClos {
		m.frame(m.place)
		m.place = modelNum(m.of(w["Kr"], 1))
		env := m.of(w["Kr"], 2)
		m.fresh("Env", impl.ObjCell, w["Acc"], env)
		return
	}
	m.doing = "resume"
	m.frame(m.place)
	rec := m.of(w["Kr"], 5)
	var fields []int
	for field := 1; field <= 3; field++ {
		fields = append(fields, m.of(rec, field))
	}
	if modelNum(fields[1]) == 0 {
		fields[0] = intWord(-1)
	}
	m.fresh("Meta", impl.ObjRec, append(fields, w["Stk"], w["Meta"])...)
	w["Ch"] = m.of(w["Kr"], 4)
	m.mode = "back"
}

func (m *modelMachine) done() {
	w := m.words
	w["Acc"] = m.pop()
	var fields []int
	for _, field := range []int{1, 3, 4, 5} {
		fields = append(fields, m.of(w["Meta"], field))
	}
	w["Stk"], w["Meta"] = fields[2], fields[3]
	if modelNum(fields[0]) < 0 {
		m.doing = "done of none"
		m.given()
		return
	}
	m.fresh("Env", impl.ObjCell, w["Acc"], fields[1])
	m.place = m.code[modelNum(fields[0])].A
}

func (m *modelMachine) look() {
	w := m.words
	m.doing = "look"
	if w["Meta"] == unitWord {
		panic(modelStop(impl.EndOp))
	}
	clause := -1
	if at := modelNum(m.of(w["Meta"], 1)); at >= 0 {
		for k := m.code[at].B; k > 0; k-- {
			if m.code[at+k].A == m.op {
				clause = m.code[at+k].B
			}
		}
	}
	if clause < 0 {
		m.doing = "look past"
		m.fresh("Ch", impl.ObjLink, w["Meta"], w["Ch"])
		w["Meta"] = m.of(w["Meta"], 5)
		return
	}
	m.fresh("Kr", impl.ObjCont, intWord(m.place), w["Env"], w["Stk"], w["Ch"], w["Meta"])
	env := m.of(w["Meta"], 3)
	m.fresh("Env", impl.ObjCell, w["Acc"], env)
	m.fresh("Env", impl.ObjCell, w["Kr"], w["Env"])
	w["Stk"] = m.of(w["Meta"], 4)
	w["Meta"] = m.of(w["Meta"], 5)
	w["Ch"], w["Kr"] = unitWord, unitWord
	m.place, m.mode = clause, "code"
}

func (m *modelMachine) back() {
	w := m.words
	if w["Ch"] == unitWord {
		m.doing = "back"
		m.place = modelNum(m.of(w["Kr"], 1))
		w["Env"] = m.of(w["Kr"], 2)
		w["Stk"] = m.of(w["Kr"], 3)
		w["Kr"] = unitWord
		m.push(w["Acc"])
		m.mode = "code"
		return
	}
	m.doing = "back within"
	rec := m.of(w["Ch"], 1)
	var fields []int
	for field := 1; field <= 4; field++ {
		fields = append(fields, m.of(rec, field))
	}
	m.fresh("Meta", impl.ObjRec, append(fields, w["Meta"])...)
	w["Ch"] = m.of(w["Ch"], 2)
}

// lies is the object that a word leads to, wherever it lies, or nil.
func (m *modelMachine) lies(w int) *modelObj {
	if modelTag(w) != 0 {
		return nil
	}
	o := m.mem.used[modelNum(w)]
	if o == nil {
		o = m.mem.old[modelNum(w)]
	}
	if o.kind == 15 {
		o = m.mem.used[modelNum(o.fields[0])]
	}
	return o
}

// text writes a value, and counts down what may still be written.
func (m *modelMachine) text(w int, room *int) string {
	if *room == 0 {
		return "."
	}
	*room--
	o := m.lies(w)
	switch {
	case modelTag(w) == 1:
		return strconv.Itoa(modelNum(w))
	case o == nil:
		return map[int]string{noWord: "false", yesWord: "true", unitWord: "()", nilWord: "[]"}[w]
	case o.kind == impl.ObjPair:
		left := m.text(o.fields[0], room)
		return "(" + left + ", " + m.text(o.fields[1], room) + ")"
	case o.kind != impl.ObjCons:
		return "fn"
	}
	var texts []string
	for ; o != nil; o = m.lies(o.fields[1]) {
		texts = append(texts, m.text(o.fields[0], room))
		if texts[len(texts)-1] == "." {
			break
		}
	}
	return "[" + strings.Join(texts, " ") + "]"
}

// modelRunCode is what RunCode is to tell of code that is ok, with where the spaces were changed.
func modelRunCode(c []ins, size, scans, fuel int) (impl.Result, impl.Stats, map[string]int) {
	m := newModelMachine(c, size, scans)
	end, steps, touch := -1, 0, 0
	for ; steps < fuel && end < 0; steps++ {
		before := m.mem.h.Touched
		end = m.step()
		touch = max(touch, m.mem.h.Touched-before)
	}
	result := impl.Result{End: end, Trace: m.trace, Steps: steps}
	switch end {
	case -1:
		result.End = impl.EndFuel
	case impl.EndDone:
		room := 60
		result.Value = m.text(m.words["Acc"], &room)
	}
	return result, impl.Stats{Flips: m.mem.h.Flips, Touch: touch}, m.flips
}

// checkRun holds a run against the model: the result, and where the spaces were changed.
func checkRun(t *testing.T, c []ins, size, scans, fuel int) (impl.Result, map[string]int) {
	t.Helper()
	kept := slices.Clone(c)
	got, stats := impl.RunCode(c, size, scans, fuel)
	want, wantStats, flips := modelRunCode(kept, size, scans, fuel)
	if !sameResult(got, want) || stats != wantStats {
		t.Fatalf("%s on %d, scans %d, in %d: %v %v, not %v %v", impl.CodeText(c), size, scans, fuel, got, stats, want, wantStats)
	}
	if !slices.Equal(c, kept) {
		t.Fatalf("%v is written into", kept)
	}
	return got, flips
}
