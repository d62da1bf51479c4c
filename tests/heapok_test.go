package tests

import (
	"math"
	"slices"
	"testing"

	"loop.example/handrail/impl"
)

// halfway is a heap that is being looked through, with a copy that was looked through, one that was not, a new object, and some of each in the other space.
func halfway(t *testing.T) heap {
	t.Helper()
	h, roots, _ := checkFlip(t, fourObjects(t), []int{ptr(8)})
	h, _ = checkScan(t, h, 1)
	h, _ = made(t, h, impl.ObjCons, intWord(-1), roots[0])
	wantHeap(t, h, [9]int{20, 20, 26, 37, 23, 0, 5, 1, 38}, map[int][]int{
		5:  {52, 57, nilWord, 63, ptr(20), 1, 63, ptr(23), ptr(14), 102, 9, 3, 4, 10, -39},
		20: {49, ptr(23), 1, 51, ptr(14), ptr(14)},
		37: {52, intWord(-1), ptr(20)},
	})
	return h
}

// bentHeap is a heap in which something is otherwise.
type bentHeap struct {
	what string
	bend func(h *heap)
}

// set is a bend of one word.
func set(what string, at int, w int) bentHeap {
	return bentHeap{what, func(h *heap) { h.Words[at] = w }}
}

// fill is a bend of three words, where an object of as many lies.
func fill(what string, at int, w int) bentHeap {
	return bentHeap{what, func(h *heap) { copy(h.Words[at:], []int{w, w, w}) }}
}

// numbersBent are heaps whose numbers cannot be, whatever lies in them.
func numbersBent() []bentHeap {
	return []bentHeap{
		{"a word less", func(h *heap) { h.Words = h.Words[:len(h.Words)-1] }},
		{"a word more", func(h *heap) { h.Words = append(h.Words, 0) }},
		{"no words", func(h *heap) { h.Words = nil }},
		{"size 0", func(h *heap) { h.Size = 0 }},
		{"size below 0", func(h *heap) { h.Size = -h.Size }},
		{"size and words of 19", func(h *heap) { *h = heap{Words: make([]int, 38), Size: 19, Top: 19, FromBottom: 19, FromTop: 38} }},
		{"size and words of 4001", func(h *heap) {
			*h = heap{Words: make([]int, 8002), Size: 4001, Top: 4001, FromBottom: 4001, FromTop: 8002}
		}},
		{"size that twice is the words", func(h *heap) { h.Size += math.MinInt }},
		{"to between", func(h *heap) { h.To = 3 }},
		{"to below", func(h *heap) { h.To = -h.Size }},
		{"to past", func(h *heap) { h.To = 2 * h.Size }},
		{"to far off", func(h *heap) { h.To = math.MinInt }},
		{"scan below to", func(h *heap) { h.Scan = h.To - 1 }},
		{"scan far below", func(h *heap) { h.Scan = math.MinInt }},
		{"scan above bottom", func(h *heap) { h.Scan = h.Bottom + 1 }},
		{"bottom below scan", func(h *heap) { h.Bottom = h.Scan - 1 }},
		{"bottom above top", func(h *heap) { h.Bottom = h.Top + 1 }},
		{"bottom far above", func(h *heap) { h.Bottom = math.MaxInt }},
		{"top below bottom", func(h *heap) { h.Top = h.Bottom - 1 }},
		{"top above the end", func(h *heap) { h.Top = h.To + h.Size + 1 }},
		{"top far above", func(h *heap) { h.Top = math.MaxInt }},
		{"from-bottom below", func(h *heap) { h.FromBottom = h.Size - h.To - 1 }},
		{"from-bottom far below", func(h *heap) { h.FromBottom = math.MinInt }},
		{"from-bottom above from-top", func(h *heap) { h.FromBottom = h.FromTop + 1 }},
		{"from-top below from-bottom", func(h *heap) { h.FromTop = h.FromBottom - 1 }},
		{"from-top above the end", func(h *heap) { h.FromTop = 2*h.Size - h.To + 1 }},
		{"from-top far above", func(h *heap) { h.FromTop = math.MaxInt }},
		{"flips below 0", func(h *heap) { h.Flips = -1 }},
		{"flips far below 0", func(h *heap) { h.Flips = math.MinInt }},
		{"touched below 0", func(h *heap) { h.Touched = -1 }},
		{"touched far below 0", func(h *heap) { h.Touched = math.MinInt }},
	}
}

// wordsBent are what may not be in the heap that is halfway looked through.
func wordsBent() []bentHeap {
	bent := []bentHeap{
		{"bottom within an object", func(h *heap) { h.Bottom-- }},
		{"bottom past the copies", func(h *heap) { h.Bottom++ }},
		{"top within an object", func(h *heap) { h.Top++ }},
		{"top ahead of the objects", func(h *heap) { h.Top-- }},
		{"top past an object that is led to", func(h *heap) { h.Words[24] = ptr(37); h.Top += 3 }},
		{"scan within an object", func(h *heap) { h.Scan-- }},
		{"scan ahead of what was not looked through, by a word", func(h *heap) { h.Scan = 21 }},
		{"from-top within an object", func(h *heap) { h.FromTop++ }},
		{"from-top ahead of the objects", func(h *heap) { h.FromTop-- }},
		{"from-bottom where no objects are", func(h *heap) { h.FromBottom++ }},
		{"from-top past an object that is led to", func(h *heap) { h.FromTop = 20 }},
		{"looked through, with fields that lead into the other space", func(h *heap) { h.Scan = h.Bottom }},
		set("a copy was moved", 20, 63), set("a copy of another size", 20, 16*6+impl.ObjCell), set("a copy of no kind", 20, 16*3), set("a copy of kind 9", 20, 16*3+9), set("a copy of kind 14", 20, 16*3+14),
		set("a copy of no words", 20, impl.ObjCell), set("a copy of a word", 20, 16+impl.ObjCell), set("a copy below 0", 20, -16*3+impl.ObjCell), set("a copy of words past int", 20, 49+1<<62),
		set("a new object was moved", 37, 63), set("a new object of six words at the end", 37, 102), set("a new object of a small word", 37, 0), set("a new object of a large word", 37, math.MaxInt),
		set("an old object of another size", 5, 16*6+impl.ObjCons), set("an old object of no kind", 5, 48), set("an old object of six words moved", 5, 111), set("an old object of a large word", 5, math.MinInt),
		set("an old object past the end", 14, 16*6+impl.ObjRec+16), set("a moved object of other words", 8, 111), set("a moved object of 4 words", 8, 16*4+15), set("a moved object of no words", 8, 15),
		set("moved to a tag", 9, ptr(20)+1), set("moved to unit", 9, unitWord), set("moved to the middle of an object", 9, ptr(21)), set("moved to between", 9, ptr(30)), set("moved to the other space", 9, ptr(5)), set("moved to what was moved", 9, ptr(11)), set("moved to below 0", 9, ptr(-1)), set("moved to past the end", 9, ptr(40)), set("moved to far off", 9, ptr(20)+1<<62),
		fill("old objects of a word, of kind 9", 5, 16+9), fill("old objects of a word, of kind 0", 5, 16), fill("old objects of a word, moved", 5, 16+15), fill("new objects of a word, of kind 14", 37, 16+14), fill("new objects of a word, of kind 0", 37, 16), fill("copies of a word", 23, 16+9),
		{"moved to an object of another size", func(h *heap) { h.Words[14], h.Words[15] = 111, ptr(20) }},
	}
	for _, at := range []int{21, 22, 24, 25, 38, 39, 6, 7, 15, 16, 17, 18, 19} {
		for _, tag := range []int{5, 6, 7} {
			bent = append(bent, set("a tag that is none", at, 8*3+tag), set("a tag that is none, below 0", at, -8+tag))
		}
		for what, to := range map[string]int{"below 0": -1, "past the end": 40, "far off": 1 << 60, "the middle of a copy": 22, "the middle of a new object": 38, "between": 26, "the middle of an old object": 6, "between in the other space": 0, "the middle of what was moved": 9} {
			bent = append(bent, set("leads to "+what, at, ptr(to)))
		}
	}
	for _, at := range []int{21, 22, 38, 39} {
		bent = append(bent, set("leads to the other space", at, ptr(14)), set("leads to what was moved", at, ptr(8)))
	}
	return bent
}

// checkNoHeap asks each function for its answer at a heap that may not be.
func checkNoHeap(t *testing.T, what string, h heap) {
	t.Helper()
	if impl.HeapOk(h) {
		t.Errorf("%s: it may be", what)
	}
	for _, roots := range [][]int{nil, {unitWord, 1}, {ptr(20)}} {
		for _, w := range []int{ptr(20), ptr(23), unitWord} {
			if g, r, v, ok := impl.HeapMake(h, roots, impl.ObjPair, []int{1, w}, 1); !sameHeap(g, heap{}) || r != nil || v != 0 || ok {
				t.Errorf("%s: made %v %v %v %v", what, g, r, v, ok)
			}
			if g, v, ok := impl.HeapField(h, w, 0); !sameHeap(g, heap{}) || v != 0 || ok {
				t.Errorf("%s: field %v %v %v", what, g, v, ok)
			}
		}
		if g, r, ok := impl.HeapFlip(h, roots); !sameHeap(g, heap{}) || r != nil || ok {
			t.Errorf("%s: flipped %v %v %v", what, g, r, ok)
		}
		if l, r, ok := impl.HeapGraph(h, roots); l != nil || r != nil || ok {
			t.Errorf("%s: graph %v %v %v", what, l, r, ok)
		}
	}
	for _, n := range []int{0, 1, 4000} {
		if g, ok := impl.HeapScan(h, n); !sameHeap(g, heap{}) || ok {
			t.Errorf("%s: scanned %v %v", what, g, ok)
		}
	}
}

func TestHeapsThatMayNotBe(t *testing.T) {
	checkNoHeap(t, "nothing", heap{})
	for _, b := range numbersBent() {
		for _, h := range []heap{halfway(t), fourObjects(t), newHeap(t, 20), newHeap(t, 4000)} {
			b.bend(&h)
			checkOk(t, h)
			checkNoHeap(t, b.what, h)
		}
	}
	for _, b := range wordsBent() {
		h := halfway(t)
		b.bend(&h)
		checkOk(t, h)
		checkNoHeap(t, b.what, h)
	}
}

func TestHeapsThatMayBe(t *testing.T) {
	bends := []bentHeap{
		{"as it is", func(h *heap) {}},
		{"many flips and touches", func(h *heap) { h.Flips, h.Touched = math.MaxInt, math.MaxInt }},
		{"none of them", func(h *heap) { h.Flips, h.Touched = 0, 0 }},
		{"nothing was looked through", func(h *heap) { h.Scan = h.To }},
		{"looked through, with no fields that lead into the other space", func(h *heap) { h.Words[24], h.Words[25], h.Scan = 1, ptr(37), h.Bottom }},
		{"looked through, and the other space is full of anything", func(h *heap) {
			h.Words[24], h.Words[25], h.Scan = 1, ptr(37), h.Bottom
			for at := range 20 {
				h.Words[at] = math.MinInt + at
			}
			h.FromBottom, h.FromTop = 7, 7
		}},
		{"between anything", func(h *heap) {
			copy(h.Words[26:], []int{7, -1, math.MaxInt, 63, 0})
			copy(h.Words, []int{7, -1, 63, 15, 0})
		}},
		{"numbers of any size", func(h *heap) { h.Words[6], h.Words[22], h.Words[38] = math.MinInt+1, math.MaxInt-6, math.MinInt+4 }},
		{"what was moved has other fields of anything", func(h *heap) { h.Words[10], h.Words[13] = math.MaxInt, ptr(-5) }},
		{"what was moved leads to a new object", func(h *heap) { h.Words[9] = ptr(37) }},
		{"two were moved to one", func(h *heap) { h.Words[9] = ptr(23) }},
		{"an old object leads to one in use", func(h *heap) { h.Words[15], h.Words[16], h.Words[17] = ptr(20), ptr(23), ptr(37) }},
		{"an old object leads to old ones", func(h *heap) { h.Words[15], h.Words[16], h.Words[17] = ptr(14), ptr(8), ptr(5) }},
		{"a copy leads to all", func(h *heap) { h.Words[24], h.Words[25] = ptr(11), ptr(37) }},
		{"objects in use lead to themselves", func(h *heap) { h.Words[21], h.Words[38], h.Words[24], h.Words[25] = ptr(20), ptr(37), ptr(23), ptr(23) }},
		{"no new objects", func(h *heap) { h.Top = 40 }},
	}
	for _, b := range bends {
		h := halfway(t)
		b.bend(&h)
		if !checkOk(t, h) || !impl.HeapOk(h) {
			t.Errorf("%s: it may not be", b.what)
			continue
		}
		checkAll(t, h)
	}
	for _, size := range []int{20, 4000} {
		h := newHeap(t, size)
		h.To, h.FromBottom, h.FromTop = size, 0, 0
		h.Bottom, h.Scan, h.Top = size, size, 2*size
		if !checkOk(t, h) {
			t.Errorf("size %d: the second space may not be in use", size)
		}
	}
}

// usedObjects are words that lead to all objects in use.
func usedObjects(h heap) []int {
	m, ok := modelParsed(h)
	if !ok {
		return nil
	}
	var found []int
	for at := range h.Words {
		if m.used[at] != nil {
			found = append(found, ptr(at))
		}
	}
	return found
}

// checkAll asks a heap for all that it may be asked for, and the answers whether they may be.
func checkAll(t *testing.T, h heap) {
	t.Helper()
	found := usedObjects(h)
	roots := found[:min(len(found), 20)]
	var heaps []heap
	for _, w := range found {
		for i := range 6 {
			g, _, _ := checkField(t, h, w, i)
			heaps = append(heaps, g)
		}
		for _, scans := range []int{0, 1, 3, 20} {
			g, _, _, _ := checkMake(t, h, []int{w}, impl.ObjPair, []int{w, -7}, scans)
			heaps = append(heaps, g)
			g, _, _, _ = checkMake(t, h, roots, impl.ObjRec, []int{w, 4, w, 3, roots[0]}, scans)
			heaps = append(heaps, g)
		}
		g, _, _ := checkFlip(t, h, []int{unitWord, w})
		heaps = append(heaps, g)
		checkGraph(t, h, []int{w, yesWord})
	}
	for _, n := range []int{0, 1, 2, 3, 20, 4000} {
		g, _ := checkScan(t, h, n)
		heaps = append(heaps, g)
	}
	g, _, _ := checkFlip(t, h, roots)
	checkGraph(t, h, roots)
	for _, g := range append(heaps, g) {
		// Counts that were as large as an int may be are below 0 when they are one more.
		if g.Words != nil && g.Flips >= 0 && g.Touched >= 0 && !impl.HeapOk(g) {
			t.Fatalf("%v: %v may not be", h, g)
		}
	}
}

// otherWords are what a word is changed into: near, far, and all that might lead somewhere.
func otherWords(h heap, w int) []int {
	words := []int{w - 1, w + 1, w - 16, w + 16, w + 48, -w, w + 1<<62, math.MaxInt, math.MinInt, 51, 63, 111, 103, 15, 0, -1}
	for at := -1; at <= 2*h.Size; at++ {
		words = append(words, ptr(at))
	}
	return words
}

func TestEachWordBent(t *testing.T) {
	p := newPlayer(t, 31, 20)
	for range 12 {
		for range 15 {
			p.play()
		}
		for at, w := range p.h.Words {
			for _, other := range otherWords(p.h, w) {
				h := cloned(p.h)
				h.Words[at] = other
				checkOk(t, h)
			}
		}
		for place := range 9 {
			for n := -2; n < 44; n++ {
				checkOk(t, withHeapNumber(p.h, place, n))
			}
			for _, n := range []int{math.MaxInt, math.MinInt, math.MaxInt - 19, math.MinInt + 20} {
				checkOk(t, withHeapNumber(p.h, place, n))
			}
		}
	}
}

// withHeapNumber is a heap with another number at that place.
func withHeapNumber(h heap, place int, n int) heap {
	*[]*int{&h.Size, &h.To, &h.Bottom, &h.Top, &h.Scan, &h.FromBottom, &h.FromTop, &h.Flips, &h.Touched}[place] = n
	return h
}

// laid lays objects by chance from a place up to another, or near it.
func (p *player) laid(words []int, from, to int, moved bool) (int, []int) {
	var begins []int
	for {
		kind := 1 + p.IntN(8)
		size := 1 + impl.ObjFields(kind)
		if from+size > to {
			return from, begins
		}
		if moved && p.IntN(3) == 0 {
			kind = impl.ObjMoved
		}
		words[from] = 16*size + kind
		begins = append(begins, from)
		from += size
	}
}

// wildHeap is a heap whose objects lead anywhere they may, as no collector left them.
func (p *player) wildHeap(size int) heap {
	h := heap{Words: make([]int, 2*size), Size: size, To: size * p.IntN(2), Flips: p.IntN(9), Touched: p.IntN(99)}
	other := size - h.To
	copies, fresh := p.IntN(size/2), p.IntN(size/2)
	var low, high, oldLow, oldHigh []int
	h.Bottom, low = p.laid(h.Words, h.To, h.To+copies, false)
	end, high := p.laid(h.Words, h.To+size-fresh, h.To+size, false)
	h.Top = shifted(h.Words, h.To+size-fresh, end, h.To+size, high)
	h.FromBottom, oldLow = p.laid(h.Words, other, other+p.IntN(size/2), true)
	begin := other + size - p.IntN(size/2)
	end, oldHigh = p.laid(h.Words, begin, other+size, true)
	h.FromTop = shifted(h.Words, begin, end, other+size, oldHigh)
	h.Scan = h.Bottom
	if len(low) > 0 && p.IntN(4) > 0 {
		h.Scan = low[p.IntN(len(low))]
	}
	p.lead(h, slices.Concat(low, high), slices.Concat(oldLow, oldHigh))
	return h
}

// shifted moves what lies from a place up to its end so that it ends elsewhere: where it begins then.
func shifted(words []int, from, end, to int, begins []int) int {
	part := slices.Clone(words[from:end])
	by := to - end
	for i := range begins {
		begins[i] += by
	}
	copy(words[from+by:], part)
	return from + by
}

// lead fills the fields of all objects.
func (p *player) lead(h heap, used, old []int) {
	pick := func(list []int) int {
		if len(list) == 0 || p.IntN(3) == 0 {
			return p.plain()
		}
		return ptr(list[p.IntN(len(list))])
	}
	for _, at := range slices.Concat(used, old) {
		isOld := slices.Contains(old, at)
		for i := 1; i < h.Words[at]/16; i++ {
			list := used
			if isOld || at >= h.Scan && at < h.Bottom {
				list = append(slices.Clone(used), old...)
			}
			h.Words[at+i] = pick(list)
		}
		if isOld && h.Words[at]%16 == impl.ObjMoved {
			h.Words[at+1] = ptr(-1)
			for _, to := range used {
				if h.Words[to]/16 == h.Words[at]/16 && p.IntN(2) == 0 || h.Words[at+1] < 0 && h.Words[to]/16 == h.Words[at]/16 {
					h.Words[at+1] = ptr(to)
				}
			}
		}
	}
}

func TestWildHeaps(t *testing.T) {
	p := newPlayer(t, 32, 20)
	fine := 0
	for i := range 3000 {
		h := p.wildHeap(20 + i%30)
		if len(usedObjects(h)) == 0 || !checkOk(t, h) {
			continue
		}
		fine++
		checkAll(t, h)
	}
	if fine < 1500 {
		t.Errorf("only %d heaps may be", fine)
	}
}
