package tests

import (
	"math"
	"slices"
	"testing"

	"loop.example/handrail/impl"
)

// Words of each tag.
func ptr(at int) int    { return 8 * at }
func intWord(n int) int { return 8*n + 1 }

const (
	noWord   = 2
	yesWord  = 10
	unitWord = 3
	nilWord  = 4
)

func TestWords(t *testing.T) {
	edges := []int{0, 1, -1, 2, 7, 8, -7, -8, -9, 999999999, math.MaxInt32, math.MinInt32, 1<<60 - 1, -1 << 60}
	for tag := range 5 {
		for _, n := range edges {
			w := impl.WordMake(tag, n)
			if w != 8*n+tag || impl.WordTag(w) != tag || impl.WordNum(w) != n {
				t.Errorf("tag %d, number %d: %d is of %d and %d", tag, n, w, impl.WordTag(w), impl.WordNum(w))
			}
		}
	}
	if impl.TagPtr != 0 || impl.TagInt != 1 || impl.TagBool != 2 || impl.TagUnit != 3 || impl.TagNil != 4 {
		t.Error("tags")
	}
	for _, tag := range []int{-1, -8, 5, 6, 7, 8, 9, 15, math.MaxInt, math.MinInt} {
		for _, n := range append(edges, math.MaxInt, math.MinInt) {
			if w := impl.WordMake(tag, n); w != 0 {
				t.Errorf("tag %d, number %d: %d", tag, n, w)
			}
		}
	}
}

func TestWordsAreTagAndNumber(t *testing.T) {
	words := []int{math.MaxInt, math.MaxInt - 7, math.MaxInt - 8, math.MinInt, math.MinInt + 1, math.MinInt + 7, math.MinInt + 8}
	for w := range 100 {
		words = append(words, w-50)
	}
	d := dice(24)
	for range 2000 {
		words = append(words, int(d.Uint64()), int(d.Uint64()>>d.IntN(64)), -int(d.Uint64()>>(1+d.IntN(63))))
	}
	for _, w := range words {
		tag, n := impl.WordTag(w), impl.WordNum(w)
		if tag < 0 || tag > 7 || n > math.MaxInt/8 || n < math.MinInt/8 || w-tag != 8*n || tag != modelTag(w) || n != modelNum(w) {
			t.Errorf("%d is of %d and %d", w, tag, n)
		}
		if tag <= 4 && impl.WordMake(tag, n) != w {
			t.Errorf("%d is made again as %d", w, impl.WordMake(tag, n))
		}
	}
	for _, c := range [][3]int{{-1, 7, -1}, {-8, 0, -1}, {-9, 7, -2}, {8, 0, 1}, {51, 3, 6}, {-39, 1, -5}} {
		if impl.WordTag(c[0]) != c[1] || impl.WordNum(c[0]) != c[2] {
			t.Errorf("%d is of %d and %d", c[0], impl.WordTag(c[0]), impl.WordNum(c[0]))
		}
	}
}

func TestWordsOfTooLargeNumbers(t *testing.T) {
	// Eight times such a number is what is left of it in an int.
	for _, n := range []int{1 << 60, -1<<60 - 1, math.MaxInt, math.MinInt, 1<<61 + 5} {
		for tag := range 5 {
			if w := impl.WordMake(tag, n); w != n*8+tag || impl.WordTag(w) != tag {
				t.Errorf("tag %d, number %d: %d", tag, n, w)
			}
		}
	}
}

func TestObjFields(t *testing.T) {
	want := []int{0, 2, 2, 2, 2, 2, 5, 5, 2, 0, 0, 0, 0, 0, 0, 0, 0, 0}
	for kind, n := range want {
		if got := impl.ObjFields(kind); got != n {
			t.Errorf("kind %d: %d", kind, got)
		}
	}
	for _, kind := range []int{-1, -2, -15, 16 + impl.ObjPair, 256 + impl.ObjRec, math.MaxInt, math.MinInt} {
		if got := impl.ObjFields(kind); got != 0 {
			t.Errorf("kind %d: %d", kind, got)
		}
	}
}

func TestHeapNew(t *testing.T) {
	for _, size := range []int{20, 21, 47, 3999, 4000} {
		h, ok := impl.HeapNew(size)
		want := heap{Words: make([]int, 2*size), Size: size, Top: size, FromBottom: size, FromTop: 2 * size}
		if !ok || !sameHeap(h, want) || !impl.HeapOk(h) {
			t.Errorf("size %d: %v %v", size, h, ok)
		}
	}
	for _, size := range []int{19, 4001, 0, 1, -1, -20, 1 << 62, 1<<63 - 1, math.MinInt, math.MinInt + 20} {
		if h, ok := impl.HeapNew(size); ok || !sameHeap(h, heap{}) {
			t.Errorf("size %d: %v %v", size, h, ok)
		}
	}
}

// made makes an object in a heap that has room for it.
func made(t *testing.T, h heap, kind int, fields ...int) (heap, int) {
	t.Helper()
	g, _, w, ok := checkMake(t, h, nil, kind, fields, 0)
	if !ok {
		t.Fatalf("%v: no room for kind %d of %v", h, kind, fields)
	}
	return g, w
}

func newHeap(t *testing.T, size int) heap {
	t.Helper()
	h, ok := impl.HeapNew(size)
	if !ok {
		t.Fatalf("no heap of %d", size)
	}
	return h
}

// wantHeap asks for a heap word by word: its numbers in the order of the fields, then places of words with what stands there.
func wantHeap(t *testing.T, h heap, numbers [9]int, at map[int][]int) {
	t.Helper()
	got := [9]int{h.Size, h.To, h.Bottom, h.Top, h.Scan, h.FromBottom, h.FromTop, h.Flips, h.Touched}
	if got != numbers {
		t.Errorf("%v, not %v", got, numbers)
	}
	for from, words := range at {
		if !slices.Equal(h.Words[from:from+len(words)], words) {
			t.Errorf("%v at %d, not %v", h.Words[from:from+len(words)], from, words)
		}
	}
	if !impl.HeapOk(h) {
		t.Errorf("%v may not be", h)
	}
}

// fourObjects are a cell of a pair that leads twice to a record, and a list that nobody needs.
func fourObjects(t *testing.T) heap {
	t.Helper()
	h, rec := made(t, newHeap(t, 20), impl.ObjRec, intWord(1), unitWord, nilWord, yesWord, intWord(-5))
	h, pair := made(t, h, impl.ObjPair, rec, rec)
	h, cell := made(t, h, impl.ObjCell, pair, intWord(0))
	h, list := made(t, h, impl.ObjCons, intWord(7), nilWord)
	if rec != ptr(14) || pair != ptr(11) || cell != ptr(8) || list != ptr(5) {
		t.Fatal(rec, pair, cell, list)
	}
	return h
}

func TestHeapWordByWord(t *testing.T) {
	h := fourObjects(t)
	objects := []int{52, 57, 4, 49, 88, 1, 51, 112, 112, 102, 9, 3, 4, 10, -39}
	wantHeap(t, h, [9]int{20, 0, 0, 5, 0, 20, 40, 0, 15}, map[int][]int{0: make([]int, 5), 5: objects, 20: make([]int, 20)})

	h, roots, ok := checkFlip(t, h, []int{ptr(8), unitWord, ptr(8)})
	if !ok || !slices.Equal(roots, []int{ptr(20), unitWord, ptr(20)}) {
		t.Fatal(roots, ok)
	}
	// the cell is copied for 8 words; that it was moved is told for 2
	wantHeap(t, h, [9]int{20, 20, 23, 40, 20, 0, 5, 1, 25}, map[int][]int{5: {52, 57, 4, 63, 160, 1}, 20: {49, 88, 1, 0}})

	h, ok = checkScan(t, h, 1)
	if !ok {
		t.Fatal("no room")
	}
	wantHeap(t, h, [9]int{20, 20, 26, 40, 23, 0, 5, 1, 37}, map[int][]int{11: {63, 184, 112}, 20: {49, 184, 1, 51, 112, 112, 0}})

	h, _ = checkScan(t, h, 1)
	wantHeap(t, h, [9]int{20, 20, 32, 40, 26, 0, 5, 1, 58}, map[int][]int{14: {111, 208, 3, 4, 10, -39}, 20: {49, 184, 1, 51, 208, 208, 102, 9, 3, 4, 10, -39, 0}})

	h, _ = checkScan(t, h, 1)
	wantHeap(t, h, [9]int{20, 20, 32, 40, 32, 0, 5, 1, 64}, nil)
	for _, n := range []int{0, 1, 20, 4000} {
		if again, ok := checkScan(t, h, n); !ok || !sameHeap(again, h) {
			t.Errorf("%d more: %v", n, again)
		}
	}
	l, roots, ok := checkGraph(t, h, roots)
	want := []obj{{Kind: impl.ObjCell, Fields: []int{ptr(1), 1}}, {Kind: impl.ObjPair, Fields: []int{ptr(2), ptr(2)}}, {Kind: impl.ObjRec, Fields: []int{9, 3, 4, 10, -39}}}
	if !ok || !sameObjs(l, want) || !slices.Equal(roots, []int{0, unitWord, 0}) {
		t.Error(l, roots, ok)
	}
}

func TestFieldsAreMovedWhenRead(t *testing.T) {
	h, roots, _ := checkFlip(t, fourObjects(t), []int{ptr(8)})
	flipped := h
	h, w, ok := checkField(t, h, roots[0], 1)
	if !ok || w != intWord(0) || h.Touched != flipped.Touched+1 || h.Bottom != 23 {
		t.Fatal(w, ok, h)
	}
	// read, copied for 8, written
	h, pair, ok := checkField(t, h, roots[0], 0)
	if !ok || pair != ptr(23) || h.Touched != flipped.Touched+11 || h.Scan != 20 || h.Words[21] != ptr(23) || h.Words[12] != ptr(23) {
		t.Fatal(pair, ok, h)
	}
	h, again, ok := checkField(t, h, roots[0], 0)
	if !ok || again != pair || h.Touched != flipped.Touched+12 {
		t.Fatal(again, ok, h)
	}
	h, rec, ok := checkField(t, h, pair, 1)
	if !ok || rec != ptr(26) || h.Touched != flipped.Touched+12+16 || h.Words[25] != ptr(26) || h.Words[24] != ptr(14) {
		t.Fatal(rec, ok, h)
	}
	// the same one again, which was moved already
	h, rec, ok = checkField(t, h, pair, 0)
	if !ok || rec != ptr(26) || h.Touched != flipped.Touched+28+4 || h.Words[24] != ptr(26) || h.Bottom != 32 {
		t.Fatal(rec, ok, h)
	}
	for i, want := range []int{9, 3, 4, 10, -39} {
		var got int
		if h, got, ok = checkField(t, h, rec, i); !ok || got != want {
			t.Errorf("field %d: %d %v", i, got, ok)
		}
	}
	if h.Touched != flipped.Touched+32+5 || h.Scan != 20 {
		t.Error(h)
	}
}

func TestFieldsThatAreNone(t *testing.T) {
	flipped, _, _ := checkFlip(t, fourObjects(t), []int{ptr(8)})
	for _, h := range []heap{fourObjects(t), flipped} {
		for w := -200; w < 600; w++ {
			for i := -2; i < 8; i++ {
				checkField(t, h, w, i)
			}
		}
		for _, w := range []int{math.MaxInt, math.MinInt, math.MaxInt - 7, 1 << 62, ptr(20) + 1<<62, ptr(20) - 1<<62} {
			if g, v, ok := checkField(t, h, w, 0); ok || v != 0 || !sameHeap(g, heap{}) {
				t.Errorf("%d: %v %d %v", w, g, v, ok)
			}
		}
		at := ptr(h.To + 8)
		if h.To > 0 {
			at = ptr(h.To)
		}
		for _, i := range []int{-1, 2, 3, 5, math.MaxInt, math.MinInt, 1 << 61} {
			if g, v, ok := checkField(t, h, at, i); ok || v != 0 || !sameHeap(g, heap{}) {
				t.Errorf("field %d: %v %d %v", i, g, v, ok)
			}
		}
	}
	if _, _, ok := checkField(t, fourObjects(t), ptr(14), 4); !ok {
		t.Error("a record has five fields")
	}
	if _, _, ok := checkField(t, fourObjects(t), ptr(14), 5); ok {
		t.Error("a record has six fields")
	}
}

// filled is a heap of that size with as many pairs as fit, each of which leads to the one ahead of it, and the last one.
func filled(t *testing.T, size int) (heap, int) {
	t.Helper()
	h, last := newHeap(t, size), nilWord
	for i := range size / 3 {
		h, last = made(t, h, impl.ObjPair, intWord(i), last)
	}
	return h, last
}

func TestObjectsThatJustFit(t *testing.T) {
	for size := 20; size < 30; size++ {
		h, _ := filled(t, size)
		if h.Flips != 0 || h.Top != size%3 || h.Bottom != 0 {
			t.Errorf("size %d: %v", size, h)
		}
		g, _, w, ok := checkMake(t, h, nil, impl.ObjLink, []int{1, 1}, 0)
		if !ok || g.Flips != 1 || g.Top != 2*size-3 || w != ptr(g.Top) || g.Bottom != size {
			t.Errorf("size %d: %v %d %v", size, g, w, ok)
		}
	}
	// five pairs, and five words between, or six, or seven
	for size, flips := range map[int]int{20: 1, 21: 0, 22: 0} {
		h := newHeap(t, size)
		for range 5 {
			h, _ = made(t, h, impl.ObjPair, 1, 1)
		}
		g, _, _, ok := checkMake(t, h, nil, impl.ObjCont, []int{1, 1, 1, 1, 1}, 0)
		if !ok || g.Flips != flips || flips == 0 && g.Top != size-21 {
			t.Errorf("size %d: %v %v", size, g, ok)
		}
	}
}

func TestHeapMakeMovesFieldsToo(t *testing.T) {
	// all 21 words are taken; the roots are moved ahead of the fields
	h, first := made(t, newHeap(t, 21), impl.ObjPair, intWord(1), nilWord)
	h, second := made(t, h, impl.ObjFrame, intWord(2), first)
	h, third := made(t, h, impl.ObjClos, intWord(3), unitWord)
	h, _ = made(t, h, impl.ObjRec, 1, 1, 1, 1, 1)
	h, _ = made(t, h, impl.ObjCons, 1, nilWord)
	h, _ = made(t, h, impl.ObjCell, 1, 1)
	if h.Top != 0 || h.Touched != 21 {
		t.Fatal(h)
	}
	g, roots, w, ok := checkMake(t, h, []int{second, noWord}, impl.ObjCont, []int{third, first, second, intWord(-1), first}, 20)
	if !ok || !slices.Equal(roots, []int{ptr(21), noWord}) || w != ptr(36) {
		t.Fatal(roots, w, ok)
	}
	// three copies, two that were moved already, and the object's six words
	wantHeap(t, g, [9]int{21, 21, 30, 36, 21, 0, 0, 1, 21 + 3*8 + 2*2 + 6}, map[int][]int{
		0: {49, 1, 1}, 12: {63, ptr(24), 3, 63, ptr(21), ptr(18), 63, ptr(27), nilWord},
		21: {53, intWord(2), ptr(18), 50, intWord(3), unitWord, 51, intWord(1), nilWord, 0, 0, 0, 0, 0, 0, 103, ptr(24), ptr(27), ptr(21), intWord(-1), ptr(27)},
	})
	// while it is being looked through the spaces are not changed: there is no room
	g, roots, w, ok = checkMake(t, g, roots, impl.ObjCont, []int{1, 1, 1, 1, w}, 0)
	if !ok || g.Top != g.Bottom || g.Flips != 1 {
		t.Fatal(g, ok)
	}
	for scans, want := range []bool{false, false, false, true} {
		_, _, _, ok = checkMake(t, g, roots, impl.ObjLink, []int{1, 1}, scans)
		if ok != want {
			t.Errorf("scans %d: %v", scans, ok)
		}
	}
}

func TestRootsLeaveNoRoom(t *testing.T) {
	h := newHeap(t, 20)
	var pairs []int
	for i := range 6 {
		var w int
		h, w = made(t, h, impl.ObjPair, intWord(i), nilWord)
		pairs = append(pairs, w)
	}
	for n := range 7 {
		_, _, _, ok := checkMake(t, h, pairs[:n], impl.ObjPair, []int{1, 1}, 0)
		if ok != (n < 6) {
			t.Errorf("%d roots: %v", n, ok)
		}
	}
	// fields need room as roots do: 12 words of copies, and 6, but not 15
	for n := range 7 {
		fields := []int{1, 1, 1, 1, 1}
		copy(fields, pairs[:min(n, 5)])
		_, _, _, ok := checkMake(t, h, nil, impl.ObjRec, fields, 0)
		if ok != (n < 5) {
			t.Errorf("%d fields: %v", n, ok)
		}
	}
	// what roots and fields share needs room once
	if _, _, _, ok := checkMake(t, h, pairs[:4], impl.ObjRec, []int{pairs[3], pairs[0], pairs[0], pairs[1], 1}, 0); !ok {
		t.Error("12 and 6 words are no more than 20")
	}
}

func TestNoRoom(t *testing.T) {
	h, last := filled(t, 20)
	flipped, roots, ok := checkFlip(t, h, []int{last})
	if !ok {
		t.Fatal("the other space has room")
	}
	// six pairs, and room for two words beside them
	if g, ok := checkScan(t, flipped, 4000); !ok || g.Bottom != 38 || g.Scan != 38 {
		t.Error(g, ok)
	}
	g, _, w, ok := checkMake(t, flipped, roots, impl.ObjPair, []int{1, 1}, 0)
	if !ok {
		t.Fatal("one fits")
	}
	for n, want := range []bool{true, true, true, true, true, false, false} {
		s, ok := checkScan(t, g, n)
		if ok != want || !ok && !sameHeap(s, heap{}) {
			t.Errorf("%d: %v %v", n, s, ok)
		}
	}
	g, _ = checkScan(t, g, 4)
	l, told, ok := checkGraph(t, g, []int{w, roots[0]})
	if !ok || len(l) != 7 || !slices.Equal(told, []int{0, 8}) || !slices.Equal(l[6].Fields, []int{intWord(0), nilWord}) {
		t.Error(l, told, ok)
	}
	// the sixth pair has no room when it is read, nor when an object is made
	if s, v, ok := checkField(t, g, ptr(32), 1); ok || v != 0 || !sameHeap(s, heap{}) {
		t.Error(s, v, ok)
	}
	for _, scans := range []int{0, 1, 20} {
		if s, r, v, ok := checkMake(t, g, roots, impl.ObjPair, []int{1, 1}, scans); ok || r != nil || v != 0 || !sameHeap(s, heap{}) {
			t.Errorf("%d: %v %v %v %v", scans, s, r, v, ok)
		}
	}
	if _, _, ok := checkFlip(t, g, nil); ok {
		t.Error("it is being looked through")
	}
}
