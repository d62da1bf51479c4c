package tests

import (
	"slices"
	"testing"

	"loop.example/handrail/impl"
)

type (
	heap = impl.Heap
	obj  = impl.Obj
)

// modelTag and modelNum take a word apart by division.
func modelTag(w int) int { return (w%8 + 8) % 8 }
func modelNum(w int) int { return (w - modelTag(w)) / 8 }

// fieldCount is the document's table of kinds.
func fieldCount(kind int) int {
	if kind < 1 || kind > 8 {
		return -1
	}
	return []int{2, 2, 2, 2, 2, 5, 5, 2}[kind-1]
}

// modelObj is an object apart from its heap; one that was moved has a kind of 15, and of its fields the first one alone counts.
type modelObj struct {
	kind   int
	fields []int
}

func (o *modelObj) words() int { return 1 + len(o.fields) }

// modelHeap is a heap as objects by address; its numbers stand in h.
type modelHeap struct {
	h    heap
	used map[int]*modelObj
	old  map[int]*modelObj
}

func cloned(h heap) heap {
	h.Words = slices.Clone(h.Words)
	return h
}

// modelLaid are the objects from a place up to another.
func modelLaid(words []int, from, to int, into map[int]*modelObj) bool {
	firsts := map[int]int{16*3 + 15: 2, 16*6 + 15: 5}
	for kind := range 15 {
		if n := fieldCount(kind); n > 0 {
			firsts[16*(1+n)+kind] = n
		}
	}
	for from < to {
		n, known := firsts[words[from]]
		if !known || from+n >= to {
			return false
		}
		into[from] = &modelObj{modelTag(words[from]) + 8*(modelNum(words[from])%2), slices.Clone(words[from+1 : from+1+n])}
		from += 1 + n
	}
	return true
}

// modelParsed is a heap as objects, if it may be.
func modelParsed(h heap) (*modelHeap, bool) {
	if h.Size < 20 || h.Size > 4000 || len(h.Words) != h.Size*2 || h.Flips < 0 || h.Touched < 0 || (h.To != 0 && h.To != h.Size) {
		return nil, false
	}
	from := 0
	if h.To == 0 {
		from = h.Size
	}
	end, fromEnd := h.To+h.Size, from+h.Size
	if h.Scan < h.To || h.Bottom < h.Scan || h.Top < h.Bottom || end < h.Top || h.FromBottom < from || h.FromTop < h.FromBottom || fromEnd < h.FromTop {
		return nil, false
	}
	m := &modelHeap{cloned(h), map[int]*modelObj{}, map[int]*modelObj{}}
	if !modelLaid(h.Words, h.To, h.Bottom, m.used) || !modelLaid(h.Words, h.Top, end, m.used) {
		return nil, false
	}
	if h.Scan < h.Bottom && (m.used[h.Scan] == nil || !modelLaid(h.Words, from, h.FromBottom, m.old) || !modelLaid(h.Words, h.FromTop, fromEnd, m.old)) {
		return nil, false
	}
	for at, o := range m.used {
		if o.kind == 15 || !m.fieldsOk(o, at >= h.Scan && at < h.Bottom) {
			return nil, false
		}
	}
	for _, o := range m.old {
		if o.kind != 15 && !m.fieldsOk(o, true) {
			return nil, false
		}
		if o.kind == 15 && (modelTag(o.fields[0]) != 0 || m.used[modelNum(o.fields[0])] == nil || m.used[modelNum(o.fields[0])].words() != o.words()) {
			return nil, false
		}
	}
	return m, true
}

// fine tells whether a word may be a root.
func (m *modelHeap) fine(w int) bool {
	return modelTag(w) > 0 && modelTag(w) < 5 || modelTag(w) == 0 && m.used[modelNum(w)] != nil
}

func (m *modelHeap) fieldsOk(o *modelObj, mayBeOld bool) bool {
	for _, w := range o.fields {
		if !m.fine(w) && !(mayBeOld && modelTag(w) == 0 && m.old[modelNum(w)] != nil) {
			return false
		}
	}
	return true
}

// rendered is the heap as numbers; where no object lies words are as they were.
func (m *modelHeap) rendered() heap {
	h := cloned(m.h)
	for _, side := range []map[int]*modelObj{m.used, m.old} {
		for at, o := range side {
			h.Words[at] = 16*o.words() + o.kind
			copy(h.Words[at+1:], o.fields)
		}
	}
	return h
}

// leadsOld tells whether a word leads to an object of the other space.
func (m *modelHeap) leadsOld(w int) bool {
	return modelTag(w) == 0 && m.used[modelNum(w)] == nil
}

// move moves a word; false, if there is no room.
func (m *modelHeap) move(w int) (int, bool) {
	if !m.leadsOld(w) {
		return w, true
	}
	o := m.old[modelNum(w)]
	if o.kind == 15 {
		m.h.Touched += 2
		return o.fields[0], true
	}
	to := m.h.Bottom
	if to+o.words() > m.h.Top {
		return 0, false
	}
	m.used[to] = &modelObj{o.kind, slices.Clone(o.fields)}
	m.h.Bottom = to + o.words()
	o.kind = 15
	o.fields[0] = 8 * to
	// its first word is read, all its words are written, its fields read, two words written
	m.h.Touched += 1 + o.words() + len(o.fields) + 2
	return 8 * to, true
}

func (m *modelHeap) moveList(list []int) ([]int, bool) {
	moved := []int{}
	for _, w := range list {
		v, ok := m.move(w)
		if !ok {
			return nil, false
		}
		moved = append(moved, v)
	}
	return moved, true
}

func (m *modelHeap) readField(o *modelObj, i int) bool {
	m.h.Touched++
	if !m.leadsOld(o.fields[i]) {
		return true
	}
	v, ok := m.move(o.fields[i])
	o.fields[i] = v
	m.h.Touched++
	return ok
}

func (m *modelHeap) scan(n int) bool {
	for range n {
		if m.h.Scan == m.h.Bottom {
			return true
		}
		o := m.used[m.h.Scan]
		m.h.Touched++
		for i := range o.fields {
			if !m.readField(o, i) {
				return false
			}
		}
		m.h.Scan += o.words()
	}
	return true
}

// flip changes the spaces; what was in use is all of the other space then, and words that no object holds any more stay as they were left.
func (m *modelHeap) flip(roots []int) ([]int, bool) {
	m.h = m.rendered()
	m.h.FromBottom, m.h.FromTop = m.h.Bottom, m.h.Top
	m.h.To = m.h.Size - m.h.To
	m.h.Scan, m.h.Bottom, m.h.Top = m.h.To, m.h.To, m.h.To+m.h.Size
	m.h.Flips++
	m.old, m.used = m.used, map[int]*modelObj{}
	return m.moveList(roots)
}

func modelFlip(h heap, roots []int) (heap, []int, bool) {
	m, ok := modelParsed(h)
	if !ok || h.Scan != h.Bottom || len(roots) > 20 || !m.allFine(roots) {
		return heap{}, nil, false
	}
	told, ok := m.flip(roots)
	if !ok {
		return heap{}, nil, false
	}
	return m.rendered(), told, true
}

func (m *modelHeap) allFine(list []int) bool {
	for _, w := range list {
		if !m.fine(w) {
			return false
		}
	}
	return true
}

func modelMake(h heap, roots []int, kind int, fields []int, scans int) (heap, []int, int, bool) {
	m, ok := modelParsed(h)
	if !ok || fieldCount(kind) != len(fields) || scans < 0 || scans > 20 || len(roots) > 20 || !m.allFine(roots) || !m.allFine(fields) {
		return heap{}, nil, 0, false
	}
	roots, w, ok := m.add(roots, kind, fields, scans)
	if !ok {
		return heap{}, nil, 0, false
	}
	return m.rendered(), roots, w, true
}

// add makes an object that may be: the roots, and a word that leads to it.
func (m *modelHeap) add(roots []int, kind int, fields []int, scans int) ([]int, int, bool) {
	ok := m.scan(scans)
	words := 1 + len(fields)
	roots, fields = slices.Clone(roots), slices.Clone(fields)
	if ok && m.h.Bottom+words > m.h.Top && m.h.Scan == m.h.Bottom {
		if roots, ok = m.flip(roots); ok {
			fields, ok = m.moveList(fields)
		}
	}
	if !ok || m.h.Bottom+words > m.h.Top {
		return roots, 0, false
	}
	m.h.Top -= words
	m.h.Touched += words
	m.used[m.h.Top] = &modelObj{kind, fields}
	return roots, 8 * m.h.Top, true
}

func modelField(h heap, w int, i int) (heap, int, bool) {
	m, ok := modelParsed(h)
	if !ok || modelTag(w) != 0 || m.used[modelNum(w)] == nil {
		return heap{}, 0, false
	}
	o := m.used[modelNum(w)]
	if i < 0 || i >= len(o.fields) || !m.readField(o, i) {
		return heap{}, 0, false
	}
	return m.rendered(), o.fields[i], true
}

func modelScan(h heap, n int) (heap, bool) {
	m, ok := modelParsed(h)
	if !ok || n < 0 || n > 4000 || !m.scan(n) {
		return heap{}, false
	}
	return m.rendered(), true
}

// modelGraph goes from object to object; what was moved is where it lies now.
func modelGraph(h heap, roots []int) ([]obj, []int, bool) {
	m, ok := modelParsed(h)
	if !ok || len(roots) > 20 || !m.allFine(roots) {
		return nil, nil, false
	}
	var met []*modelObj
	told := func(list []int) []int {
		var out []int
		for _, w := range list {
			if modelTag(w) == 0 {
				o := m.used[modelNum(w)]
				if o == nil {
					o = m.old[modelNum(w)]
				}
				if o.kind == 15 {
					o = m.used[modelNum(o.fields[0])]
				}
				if !slices.Contains(met, o) {
					met = append(met, o)
				}
				w = 8 * slices.Index(met, o)
			}
			out = append(out, w)
		}
		return out
	}
	toldRoots := told(roots)
	var objs []obj
	for i := 0; i < len(met); i++ {
		objs = append(objs, obj{Kind: met[i].kind, Fields: told(met[i].fields)})
	}
	return objs, toldRoots, true
}

func sameHeap(a, b heap) bool {
	if !slices.Equal(a.Words, b.Words) {
		return false
	}
	return a.Size == b.Size && a.To == b.To && a.Bottom == b.Bottom && a.Top == b.Top && a.Scan == b.Scan && a.FromBottom == b.FromBottom && a.FromTop == b.FromTop && a.Flips == b.Flips && a.Touched == b.Touched
}

func sameObjs(a, b []obj) bool {
	return slices.EqualFunc(a, b, func(x, y obj) bool { return x.Kind == y.Kind && slices.Equal(x.Fields, y.Fields) })
}

// The checks below ask for one answer, hold it against the model, and see that the heap is not written into.

func checkOk(t *testing.T, h heap) bool {
	t.Helper()
	_, want := modelParsed(h)
	if got := impl.HeapOk(h); got != want {
		t.Fatalf("%v: %v", h, got)
	}
	return want
}

func checkMake(t *testing.T, h heap, roots []int, kind int, fields []int, scans int) (heap, []int, int, bool) {
	t.Helper()
	h0, r0, f0 := cloned(h), slices.Clone(roots), slices.Clone(fields)
	g, r, w, ok := impl.HeapMake(h, roots, kind, fields, scans)
	wantG, wantR, wantW, want := modelMake(h0, r0, kind, f0, scans)
	if !sameHeap(g, wantG) || !slices.Equal(r, wantR) || w != wantW || ok != want {
		t.Fatalf("%v, %v, kind %d of %v, scans %d:\n%v %v %d %v, not\n%v %v %d %v", h, roots, kind, fields, scans, g, r, w, ok, wantG, wantR, wantW, want)
	}
	if !sameHeap(h, h0) || !slices.Equal(roots, r0) || !slices.Equal(fields, f0) {
		t.Fatalf("%v %v %v is written into", h, roots, fields)
	}
	return g, r, w, ok
}

func checkField(t *testing.T, h heap, w int, i int) (heap, int, bool) {
	t.Helper()
	h0 := cloned(h)
	g, v, ok := impl.HeapField(h, w, i)
	wantG, wantV, want := modelField(h0, w, i)
	if !sameHeap(g, wantG) || v != wantV || ok != want {
		t.Fatalf("%v, %d, field %d:\n%v %d %v, not\n%v %d %v", h, w, i, g, v, ok, wantG, wantV, want)
	}
	if !sameHeap(h, h0) {
		t.Fatalf("%v is written into", h)
	}
	return g, v, ok
}

func checkScan(t *testing.T, h heap, n int) (heap, bool) {
	t.Helper()
	h0 := cloned(h)
	g, ok := impl.HeapScan(h, n)
	wantG, want := modelScan(h0, n)
	if !sameHeap(g, wantG) || ok != want {
		t.Fatalf("%v, %d:\n%v %v, not\n%v %v", h, n, g, ok, wantG, want)
	}
	if !sameHeap(h, h0) {
		t.Fatalf("%v is written into", h)
	}
	return g, ok
}

func checkFlip(t *testing.T, h heap, roots []int) (heap, []int, bool) {
	t.Helper()
	h0, r0 := cloned(h), slices.Clone(roots)
	g, r, ok := impl.HeapFlip(h, roots)
	wantG, wantR, want := modelFlip(h0, r0)
	if !sameHeap(g, wantG) || !slices.Equal(r, wantR) || ok != want {
		t.Fatalf("%v, %v:\n%v %v %v, not\n%v %v %v", h, roots, g, r, ok, wantG, wantR, want)
	}
	if !sameHeap(h, h0) || !slices.Equal(roots, r0) {
		t.Fatalf("%v %v is written into", h, roots)
	}
	return g, r, ok
}

func checkGraph(t *testing.T, h heap, roots []int) ([]obj, []int, bool) {
	t.Helper()
	h0, r0 := cloned(h), slices.Clone(roots)
	l, r, ok := impl.HeapGraph(h, roots)
	wantL, wantR, want := modelGraph(h0, r0)
	if !sameObjs(l, wantL) || !slices.Equal(r, wantR) || ok != want {
		t.Fatalf("%v, %v:\n%v %v %v, not\n%v %v %v", h, roots, l, r, ok, wantL, wantR, want)
	}
	if !sameHeap(h, h0) || !slices.Equal(roots, r0) {
		t.Fatalf("%v %v is written into", h, roots)
	}
	return l, r, ok
}
