package tests

import (
	"slices"
	"strconv"
	"strings"
	"testing"

	"loop.example/handrail/impl"
)

// The model of meanings goes by places of nodes, and keeps what waits in a slice that is copied wherever it is kept.

// modelValue is a value: a kind of node that makes it, and what it is made of.
// NInt, NBool: num; NPair, NCons: parts; NFn: the place of its body, and what is known there; NShallow: a continuation.
type modelValue struct {
	kind  int
	num   int
	parts []modelValue
	fn    *modelFnValue
	waits []modelFrame
}

type modelFnValue struct {
	self, arg string
	body      int
	env       []modelBound
}

type modelBound struct {
	name string
	is   modelValue
}

// modelFrame is a node that waits, with the values that it has.
type modelFrame struct {
	at  int
	env []modelBound
	has []modelValue
}

type modelRun struct {
	p      prog
	waits  []modelFrame
	begins bool
	at     int
	env    []modelBound
	given  modelValue
	trace  []int
	end    int
}

func bound(env []modelBound, name string, is modelValue) []modelBound {
	return append(slices.Clone(env), modelBound{name, is})
}

func (r *modelRun) begin(at int, env []modelBound) { r.begins, r.at, r.env = true, at, env }
func (r *modelRun) give(v modelValue)              { r.begins, r.given = false, v }

func (r *modelRun) beginNode() {
	n := r.p.Tree[r.at]
	switch n.Kind {
	case impl.NInt, impl.NBool, impl.NUnit, impl.NNil:
		r.give(modelValue{kind: n.Kind, num: n.Num})
	case impl.NVar:
		for _, b := range slices.Backward(r.env) {
			if b.name == n.A {
				r.give(b.is)
				return
			}
		}
		r.end = impl.EndStuck
	case impl.NFn:
		r.give(modelValue{kind: impl.NFn, fn: &modelFnValue{arg: n.A, body: r.at + 1, env: r.env}})
	case impl.NRec:
		fn := modelValue{kind: impl.NFn, fn: &modelFnValue{self: n.A, arg: n.B, body: r.at + 1, env: r.env}}
		r.begin(kidPlaces(r.p.Tree, r.at)[1], bound(r.env, n.A, fn))
	default:
		r.waits = append(slices.Clone(r.waits), modelFrame{at: r.at, env: r.env})
		r.begin(r.at+1, r.env)
	}
}

func (r *modelRun) handBack() {
	if len(r.waits) == 0 {
		r.end = impl.EndDone
		return
	}
	f := r.waits[len(r.waits)-1]
	r.waits = slices.Clone(r.waits[:len(r.waits)-1])
	n, kids := r.p.Tree[f.at], kidPlaces(r.p.Tree, f.at)
	v := r.given
	switch n.Kind {
	case impl.NLet:
		r.begin(kids[1], bound(f.env, n.A, v))
	case impl.NIf:
		if v.kind != impl.NBool {
			r.end = impl.EndStuck
			return
		}
		r.begin(kids[2-v.num], f.env)
	case impl.NCase:
		switch v.kind {
		case impl.NNil:
			r.begin(kids[1], f.env)
		case impl.NCons:
			r.begin(kids[2], bound(bound(f.env, n.A, v.parts[0]), n.B, v.parts[1]))
		default:
			r.end = impl.EndStuck
		}
	case impl.NFst, impl.NSnd:
		if v.kind != impl.NPair {
			r.end = impl.EndStuck
			return
		}
		r.give(v.parts[n.Kind-impl.NFst])
	case impl.NPrint:
		r.print(v)
	case impl.NDo:
		r.perform(n.A, v)
	case impl.NDeep, impl.NShallow:
		r.begin(kids[1]+1, bound(f.env, r.p.Tree[kids[1]].A, v))
	default:
		if len(f.has) == 0 {
			r.waits = append(r.waits, modelFrame{at: f.at, env: f.env, has: []modelValue{v}})
			r.begin(kids[1], f.env)
			return
		}
		r.two(n.Kind, f.has[0], v)
	}
}

func (r *modelRun) print(v modelValue) {
	switch {
	case v.kind != impl.NInt:
		r.end = impl.EndStuck
	case len(r.trace) == impl.MeanMaxTrace:
		r.end = impl.EndFull
	default:
		r.trace = append(r.trace, v.num)
		r.give(modelValue{kind: impl.NUnit})
	}
}

func (r *modelRun) perform(name string, v modelValue) {
	for i, f := range slices.Backward(r.waits) {
		n := r.p.Tree[f.at]
		if n.Kind != impl.NDeep && n.Kind != impl.NShallow {
			continue
		}
		for _, clause := range kidPlaces(r.p.Tree, f.at)[2:] {
			c := r.p.Tree[clause]
			if c.A != name {
				continue
			}
			from := i
			if n.Kind == impl.NShallow {
				from++
			}
			cont := modelValue{kind: impl.NShallow, waits: slices.Clone(r.waits[from:])}
			r.waits = slices.Clone(r.waits[:i])
			r.begin(clause+1, bound(bound(f.env, c.B, v), c.C, cont))
			return
		}
	}
	r.end = impl.EndOp
}

func (r *modelRun) two(k int, a, b modelValue) {
	switch {
	case k == impl.NPair:
		r.give(modelValue{kind: impl.NPair, parts: []modelValue{a, b}})
	case k == impl.NCons && (b.kind == impl.NNil || b.kind == impl.NCons):
		r.give(modelValue{kind: impl.NCons, parts: []modelValue{a, b}})
	case k == impl.NApp && a.kind == impl.NFn:
		env := a.fn.env
		if a.fn.self != "" {
			env = bound(env, a.fn.self, a)
		}
		r.begin(a.fn.body, bound(env, a.fn.arg, b))
	case k == impl.NApp && a.kind == impl.NShallow:
		r.waits = append(slices.Clone(r.waits), a.waits...)
		r.give(b)
	case k >= impl.NAdd && k <= impl.NMul && a.kind == impl.NInt && b.kind == impl.NInt:
		r.give(modelValue{kind: impl.NInt, num: modelArith(k, a.num, b.num)})
	case k >= impl.NEq && k <= impl.NLt && a.kind == impl.NInt && b.kind == impl.NInt:
		r.give(modelValue{kind: impl.NBool, num: modelArith(k, a.num, b.num)})
	default:
		r.end = impl.EndStuck
	}
}

// modelWrap takes off what is beyond 32 bits by counting.
func modelWrap(n int64) int64 {
	const all = int64(1) << 32
	n = (n%all + all) % all
	if n >= all/2 {
		n -= all
	}
	return n
}

func modelArith(k, a, b int) int {
	x, y := modelWrap(int64(a)), modelWrap(int64(b))
	switch k {
	case impl.NAdd:
		return int(modelWrap(x + y))
	case impl.NSub:
		return int(modelWrap(x - y))
	case impl.NMul:
		return int(modelWrap(x * y))
	case impl.NEq:
		if x == y {
			return 1
		}
	case impl.NLt:
		if x < y {
			return 1
		}
	}
	return 0
}

// modelText writes a value, and counts down what may still be written.
func modelText(v modelValue, room *int) string {
	if *room == 0 {
		return "."
	}
	*room--
	switch v.kind {
	case impl.NInt:
		return strconv.Itoa(v.num)
	case impl.NBool:
		return []string{"false", "true"}[v.num]
	case impl.NUnit:
		return "()"
	case impl.NPair:
		left := modelText(v.parts[0], room)
		return "(" + left + ", " + modelText(v.parts[1], room) + ")"
	case impl.NNil, impl.NCons:
		var texts []string
		for ; v.kind == impl.NCons; v = v.parts[1] {
			text := modelText(v.parts[0], room)
			texts = append(texts, text)
			if text == "." {
				break
			}
		}
		return "[" + strings.Join(texts, " ") + "]"
	}
	return "fn"
}

// modelMean is what MeanRun should tell of a program that is ok; big: it came to so much waiting that the model gave up.
func modelMean(p prog, fuel int) (result impl.Result, big bool) {
	r := modelRun{p: p, begins: true, end: -1}
	steps := 0
	for ; steps < fuel && r.end < 0; steps++ {
		if r.begins {
			r.beginNode()
		} else {
			r.handBack()
		}
		if len(r.waits) > 3000 {
			return impl.Result{}, true
		}
	}
	result = impl.Result{End: r.end, Trace: r.trace, Steps: steps}
	switch r.end {
	case -1:
		result.End = impl.EndFuel
	case impl.EndDone:
		room := impl.MeanMaxParts
		result.Value = modelText(r.given, &room)
	}
	return result, false
}

func sameResult(a, b impl.Result) bool {
	return a.End == b.End && a.Steps == b.Steps && a.Value == b.Value && slices.Equal(a.Trace, b.Trace)
}

// checkMeant holds what a program means against the model, and answers how it ends.
func checkMeant(t *testing.T, p prog, fuel int) int {
	t.Helper()
	want, big := modelMean(p, fuel)
	if big {
		return -1
	}
	if got := impl.MeanRun(p, fuel); !sameResult(got, want) {
		t.Fatalf("%s in %d: %v, not %v", impl.ProgText(p), fuel, got, want)
	}
	return want.End
}
