package tests

import (
	"fmt"
	"math"
	"slices"
	"strings"
	"testing"

	"loop.example/handrail/impl"
)

func sameReport(a, b impl.Report) bool {
	return a.Fault == b.Fault && a.Type == b.Type && a.Code == b.Code && a.Ins == b.Ins && sameResult(a.Result, b.Result) && a.Stats == b.Stats
}

// modelDrive is what the parts tell of a text.
func modelDrive(text string, size, scans, fuel int) impl.Report {
	p, fault := impl.ProgRead(text)
	if fault.Code > 0 {
		return impl.Report{Fault: fault}
	}
	kind, code := impl.TypeOf(p)
	if code > 0 {
		return impl.Report{Code: code}
	}
	c, _ := impl.Compile(p)
	r, stats := impl.RunCode(c, size, scans, fuel)
	return impl.Report{Type: kind, Ins: len(c), Result: r, Stats: stats}
}

// modelDriven is a report, written.
func modelDriven(r impl.Report) string {
	if r.Fault.Code != 0 {
		return fmt.Sprintf("fault %d at %d", r.Fault.Code, r.Fault.At)
	}
	if r.Code != 0 {
		return fmt.Sprintf("type %d", r.Code)
	}
	parts := []string{r.Type, "|"}
	for i, n := range r.Result.Trace {
		if i < 200 {
			parts = append(parts, fmt.Sprint(n))
		}
	}
	last := fmt.Sprintf("end %d", r.Result.End)
	if r.Result.End == 0 {
		last = r.Result.Value
	}
	return strings.Join(append(parts, "|", last), " ")
}

// checkDriven asks for promise 25 of a text.
func checkDriven(t *testing.T, text string, size, scans, fuel int) impl.Report {
	t.Helper()
	got, want := impl.Drive(text, size, scans, fuel), modelDrive(text, size, scans, fuel)
	if !sameReport(got, want) {
		t.Fatalf("%q on %d, scans %d, in %d: %v, not %v", text, size, scans, fuel, got, want)
	}
	if told := impl.DriveText(got); told != modelDriven(want) {
		t.Fatalf("%q on %d, scans %d, in %d: %q, not %q", text, size, scans, fuel, told, modelDriven(want))
	}
	return got
}

func TestDrivenTexts(t *testing.T) {
	for _, c := range []struct{ text, want string }{
		{"effect ask : unit => int ; handle print (do ask () + do ask ()) with ret x -> 0 | ask u k -> 1 + k 20 end", "int | 40 | 2"},
		{"1", "int | | 1"}, {"(fn x -> x)", "'0 -> '0 | | fn"}, {"nil", "'0 list | | []"}, {"print 3", "unit | 3 | ()"}, {"(print 1, (print (0 - 2), 3 :: nil))", "unit * (unit * int list) | 1 -2 | ((), ((), [3]))"}, {"effect a : int => int ; fn x -> do a x", "int -[a]-> int | | fn"}, {"true :: false :: nil", "bool list | | [true false]"},
		{"effect ask : unit => int ; shallow print (do ask ()) with ret x -> () | ask u k -> k 7 end", "type 4"}, {"effect a : int => int ; shallow do a 1 + do a 2 with ret x -> x | a y k -> handle k 10 with ret z -> z | a q j -> j (q * 100) end end", "int | | 210"},
		{"let rec f n = let u = print n in f n in f 1", "'0 |" + strings.Repeat(" 1", 200) + " | end 5"}, {"let rec f n = if n = 0 then print 0 else f (n - 1) in f 1000", "unit | | end 6"}, {"let rec f n = if n = 0 then 0 else f (n - 1) in let u = print 5 in f 1000", "int | 5 | end 6"},
		{"", "fault 5 at 0"}, {"1 +", "fault 5 at 3"}, {"1 + + 2", "fault 5 at 4"}, {"1 ? 2", "fault 2 at 2"}, {"007", "fault 3 at 0"}, {"1 + 1234567890", "fault 3 at 4"}, {"1 + longername", "fault 4 at 4"}, {strings.Repeat(" ", 1500) + "1", "fault 1 at 0"}, {strings.Repeat("1+", 160) + "1", "fault 6 at 0"}, {strings.Repeat("fn x -> ", 40) + "1", "fault 7 at 0"}, {"do a 1", "fault 8 at 0"},
		{"1 true", "type 3"}, {"x", "type 2"}, {"effect a : int => int ; do a 1", "type 4"}, {"1 :: true :: nil", "type 3"},
	} {
		if got := impl.DriveText(checkDriven(t, c.text, impl.HeapMaxSize, 2, impl.RunMaxFuel)); got != c.want {
			t.Errorf("%q: %q, not %q", c.text, got, c.want)
		}
	}
	// The second sum is the seventh object: the name's cell is moved for it.
	r := checkDriven(t, "let a = 1 in print (a + 2 + 3)", 20, 0, 1000)
	if !sameReport(r, impl.Report{Type: "unit", Ins: 10, Result: impl.Result{Trace: []int{6}, Value: "()", Steps: 10}, Stats: impl.Stats{Flips: 1, Touch: 15}}) {
		t.Error(r)
	}
}

// Wrong heaps, scans and fuels are told by the run alone: what is wrong with a text is told all the same.
func TestDrivenWrongly(t *testing.T) {
	for _, c := range [][3]int{{19, 2, 10}, {4001, 2, 10}, {100, -1, 10}, {100, 21, 10}, {100, 2, -1}, {100, 2, 200001}, {math.MaxInt, math.MaxInt, math.MaxInt}, {math.MinInt, math.MinInt, math.MinInt}} {
		r := checkDriven(t, "1 + 2", c[0], c[1], c[2])
		if !sameReport(r, impl.Report{Type: "int", Ins: 4, Result: impl.Result{End: impl.EndBad}}) || impl.DriveText(r) != "int | | end 1" {
			t.Errorf("%v: %v", c, r)
		}
		if r := checkDriven(t, "1 +", c[0], c[1], c[2]); !sameReport(r, impl.Report{Fault: impl.Fault{Code: impl.ErrToken, At: 3}}) {
			t.Errorf("%v: %v", c, r)
		}
		if r := checkDriven(t, "1 true", c[0], c[1], c[2]); !sameReport(r, impl.Report{Code: impl.TypeClash}) {
			t.Errorf("%v: %v", c, r)
		}
	}
	for fuel, want := range []string{"int | | end 2", "int | | end 2", "int | | end 2", "int | | end 2", "int | | 3", "int | | 3"} {
		if got := impl.DriveText(checkDriven(t, "1 + 2", 20, 20, fuel)); got != want {
			t.Errorf("in %d: %q", fuel, got)
		}
	}
}

// Promise 25: what is told of a text is what its parts tell.
func TestDrivenAsItsParts(t *testing.T) {
	for _, text := range ranTexts() {
		for size := impl.HeapMinSize; size < 400; size += 1 + size/4 {
			checkDriven(t, askText+text, size, size%21, impl.RunMaxFuel)
		}
		for fuel := range 40 {
			checkDriven(t, askText+text, 200, 3, 5*fuel)
		}
	}
	codes, faults, ends := map[int]int{}, map[int]int{}, map[int]int{}
	note := func(r impl.Report) {
		switch {
		case r.Fault.Code > 0:
			faults[r.Fault.Code]++
		case r.Code > 0:
			codes[r.Code]++
		default:
			ends[r.Result.End]++
		}
	}
	somePrograms(t, 25, 500, func(m fitter, p prog) {
		size, scans, fuel := impl.HeapMinSize-1+m.IntN(300), m.IntN(22), m.IntN(200)
		text := impl.ProgText(p)
		note(checkDriven(t, text, size, scans, fuel))
		note(checkDriven(t, spoiltText(m.maker, text), size, scans, fuel))
	})
	m := newMaker(26)
	for range 3000 {
		note(checkDriven(t, anyText(m, 12), 50, 1, 100))
	}
	for _, end := range []int{impl.EndDone, impl.EndBad, impl.EndFuel, impl.EndMemory} {
		if ends[end] < 20 {
			t.Errorf("too few: %v", ends)
		}
	}
	if len(faults) < 5 || len(codes) < 3 {
		t.Errorf("too few: %v %v", faults, codes)
	}
}

// Any report is written, whether Drive would tell it or not.
func TestReportsAreWritten(t *testing.T) {
	count := make([]int, 201)
	text := ""
	for i := range count {
		count[i] = i - 100
		if i < 200 {
			text += fmt.Sprint(" ", i-100)
		}
	}
	far := impl.Result{Trace: []int{math.MaxInt, math.MinInt}, Value: "v"}
	for _, c := range []struct {
		r    impl.Report
		want string
	}{
		{impl.Report{}, " | | "}, {impl.Report{Type: "int"}, "int | | "}, {impl.Report{Fault: impl.Fault{Code: 1}}, "fault 1 at 0"}, {impl.Report{Fault: impl.Fault{Code: -1, At: -7}, Code: 3, Type: "int"}, "fault -1 at -7"}, {impl.Report{Fault: impl.Fault{Code: math.MaxInt, At: math.MinInt}}, "fault 9223372036854775807 at -9223372036854775808"},
		{impl.Report{Code: 3, Type: "int", Ins: 4}, "type 3"}, {impl.Report{Code: -1}, "type -1"}, {impl.Report{Code: math.MinInt}, "type -9223372036854775808"},
		{impl.Report{Type: "a", Result: impl.Result{Trace: count[:200], Value: "v"}}, "a |" + text + " | v"}, {impl.Report{Type: "a", Result: impl.Result{Trace: count, Value: "v"}}, "a |" + text + " | v"}, {impl.Report{Type: "a", Result: impl.Result{Trace: count, Value: "v", End: 5}}, "a |" + text + " | end 5"}, {impl.Report{Type: "a", Result: far}, "a | 9223372036854775807 -9223372036854775808 | v"},
		{impl.Report{Type: "\x00\xff", Result: impl.Result{End: -1, Value: "v"}}, "\x00\xff | | end -1"}, {impl.Report{Result: impl.Result{End: math.MaxInt, Steps: 5}, Ins: 9, Stats: impl.Stats{Flips: 1, Touch: 2}}, " | | end 9223372036854775807"},
	} {
		kept := slices.Clone(c.r.Result.Trace)
		if got := impl.DriveText(c.r); got != c.want || got != modelDriven(c.r) {
			t.Errorf("%v: %q, not %q", c.r, got, c.want)
		}
		if !slices.Equal(c.r.Result.Trace, kept) {
			t.Errorf("%v is written into", c.r)
		}
	}
}

func TestReportsAreNewMemory(t *testing.T) {
	text := "(print 1, (print 2, print 3))"
	one := impl.Drive(text, 100, 1, 1000)
	two := impl.Drive(text, 100, 1, 1000)
	clear(one.Result.Trace[:cap(one.Result.Trace)])
	if three := impl.Drive(text, 100, 1, 1000); !slices.Equal(two.Result.Trace, []int{1, 2, 3}) || !sameReport(two, three) {
		t.Error(two, three)
	}
}
