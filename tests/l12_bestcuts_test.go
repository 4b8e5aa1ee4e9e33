package tests

import (
	"fmt"
	"iter"
	"maps"
	"math"
	"slices"
	"sort"
	"strconv"
	"strings"
	"sync"
	"testing"

	"loop.example/g00944/impl"
)

// cutTask is a sheet and kinds of pieces, valid or not.
type cutTask struct {
	size  sheetSize
	kinds []impl.Kind
}

// countedPlan is a plan with the number of pieces of each kind, which have been counted when it was
// put together.
type countedPlan struct {
	text   string
	counts [6]int64
}

// planParts is the beginning of a plan with a cut, and both parts of the sheet.
type planParts struct {
	line          string
	first, second sheetSize
}

// partsByHand returns all cuts of a sheet: those between columns and those between rows, both from
// the least number on.
func partsByHand(size sheetSize) []planParts {
	var list []planParts
	for x := int64(1); x < size.wide; x++ {
		list = append(list, planParts{"|" + strconv.FormatInt(x, 10), sheetSize{x, size.high}, sheetSize{size.wide - x, size.high}})
	}
	for y := int64(1); y < size.high; y++ {
		list = append(list, planParts{"-" + strconv.FormatInt(y, 10), sheetSize{size.wide, y}, sheetSize{size.wide, size.high - y}})
	}
	return list
}

// planMaker puts together all plans with some kinds, and knows those that it has already listed.
type planMaker struct {
	kinds []impl.Kind
	known map[sheetSize][]countedPlan
}

func newPlanMaker(kinds []impl.Kind) planMaker {
	return planMaker{kinds, map[sheetSize][]countedPlan{}}
}

// eachPlan hands out all plans for a sheet in the order in which the chapter prefers them: waste, the
// kinds, the cuts | and the cuts -, and those with the same cut by their first and second parts.
func (m planMaker) eachPlan(size sheetSize) iter.Seq[countedPlan] {
	return func(yield func(countedPlan) bool) {
		if !yield(countedPlan{text: "."}) {
			return
		}
		for i, kind := range m.kinds {
			plan := countedPlan{text: "abcdef"[i : i+1]}
			plan.counts[i] = 1
			if kind.Wide <= size.wide && kind.High <= size.high && !yield(plan) {
				return
			}
		}
		for _, parts := range partsByHand(size) {
			for _, first := range m.list(parts.first) {
				for _, second := range m.list(parts.second) {
					if !yield(joinedPlan(parts.line, first, second)) {
						return
					}
				}
			}
		}
	}
}

// list returns all plans for a sheet, in the same order.
func (m planMaker) list(size sheetSize) []countedPlan {
	if _, listed := m.known[size]; !listed {
		m.known[size] = slices.Collect(m.eachPlan(size))
	}
	return m.known[size]
}

// texts returns the texts of all plans for a sheet.
func (m planMaker) texts(size sheetSize) map[string]bool {
	set := map[string]bool{}
	for plan := range m.eachPlan(size) {
		set[plan.text] = true
	}
	return set
}

// joinedPlan returns the plan with a cut and plans for both parts.
func joinedPlan(line string, first countedPlan, second countedPlan) countedPlan {
	plan := countedPlan{text: line + "(" + first.text + ")(" + second.text + ")", counts: first.counts}
	for i, count := range second.counts {
		plan.counts[i] += count
	}
	return plan
}

// valueByHand returns the value of a plan.
func valueByHand(kinds []impl.Kind, plan countedPlan) int64 {
	var value int64
	for i, kind := range kinds {
		for range plan.counts[i] {
			value += kind.Value
		}
	}
	return value
}

// bestOfAllPlans returns the first plan with the greatest value of all plans, and this value.
func bestOfAllPlans(task cutTask) (countedPlan, int64) {
	var best countedPlan
	most := int64(-1)
	for plan := range newPlanMaker(task.kinds).eachPlan(task.size) {
		if value := valueByHand(task.kinds, plan); value > most {
			best, most = plan, value
		}
	}
	return best, most
}

// cutSearch finds best plans as the chapter tells them, and knows the best values that it has
// already found.
type cutSearch struct {
	kinds []impl.Kind
	known map[sheetSize]int64
}

func newCutSearch(kinds []impl.Kind) cutSearch {
	return cutSearch{kinds, map[sheetSize]int64{}}
}

// value returns the best value of a sheet.
func (s cutSearch) value(size sheetSize) int64 {
	if value, found := s.known[size]; found {
		return value
	}
	var best int64
	for _, kind := range s.kinds {
		if kind.Wide <= size.wide && kind.High <= size.high {
			best = max(best, kind.Value)
		}
	}
	for _, parts := range partsByHand(size) {
		best = max(best, s.value(parts.first)+s.value(parts.second))
	}
	s.known[size] = best
	return best
}

// plan returns the best plan of a sheet.
func (s cutSearch) plan(size sheetSize) countedPlan {
	best := s.value(size)
	if best == 0 {
		return countedPlan{text: "."}
	}
	for i, kind := range s.kinds {
		if kind.Wide <= size.wide && kind.High <= size.high && kind.Value == best {
			plan := countedPlan{text: "abcdef"[i : i+1]}
			plan.counts[i] = 1
			return plan
		}
	}
	for _, parts := range partsByHand(size) {
		if s.value(parts.first)+s.value(parts.second) == best {
			return joinedPlan(parts.line, s.plan(parts.first), s.plan(parts.second))
		}
	}
	return countedPlan{}
}

// bestKindByHand lays grids row by row and returns the first kind with the greatest value.
func bestKindByHand(task cutTask) (int64, int64) {
	best, most := int64(0), int64(0)
	for i, kind := range task.kinds {
		var value int64
		for y := kind.High; y <= task.size.high; y += kind.High {
			for x := kind.Wide; x <= task.size.wide; x += kind.Wide {
				value += kind.Value
			}
		}
		if value > most {
			best, most = int64(i), value
		}
	}
	return best, most
}

// densityByHand returns the greatest number that is at most as great as a quotient of the bound.
func densityByHand(task cutTask) int64 {
	var bound int64
	for _, kind := range task.kinds {
		above := sort.Search(40*40*1000+1, func(n int) bool {
			return int64(n)*kind.Wide*kind.High > task.size.wide*task.size.high*kind.Value
		})
		bound = max(bound, int64(above)-1)
	}
	return bound
}

// checkPlan checks what the functions say of a plan.
func checkPlan(t *testing.T, task cutTask, plan countedPlan) {
	t.Helper()
	want := valueByHand(task.kinds, plan)
	if value, code := impl.PlanValue(task.size.wide, task.size.high, task.kinds, plan.text); value != want || code != impl.ErrNone {
		t.Fatalf("PlanValue(%v, %q) = %d, %d; want %d", task, shortName(plan.text), value, code, want)
	}
	counts, code := impl.PlanCounts(task.size.wide, task.size.high, task.kinds, plan.text)
	if !slices.Equal(counts, plan.counts[:len(task.kinds)]) || code != impl.ErrNone {
		t.Fatalf("PlanCounts(%v, %q) = %v, %d; want %v", task, shortName(plan.text), counts, code, plan.counts)
	}
	used := int64(0)
	for i, kind := range task.kinds {
		used += plan.counts[i] * kind.Wide * kind.High
	}
	waste, code := impl.PlanWaste(task.size.wide, task.size.high, task.kinds, plan.text)
	if waste+used != task.size.wide*task.size.high || waste < 0 || code != impl.ErrNone {
		t.Fatalf("PlanWaste(%v, %q) = %d, %d; the pieces have the area %d", task, shortName(plan.text), waste, code, used)
	}
}

// checkNoPlan checks that a text is no plan, or that it does not matter whether it is one.
func checkNoPlan(t *testing.T, task cutTask, plan string, want int64) {
	t.Helper()
	if value, code := impl.PlanValue(task.size.wide, task.size.high, task.kinds, plan); value != 0 || code != want {
		t.Errorf("PlanValue(%v, %q) = %d, %d; want %d", task, shortName(plan), value, code, want)
	}
	if counts, code := impl.PlanCounts(task.size.wide, task.size.high, task.kinds, plan); counts != nil || code != want {
		t.Errorf("PlanCounts(%v, %q) = %v, %d; want %d", task, shortName(plan), counts, code, want)
	}
	if waste, code := impl.PlanWaste(task.size.wide, task.size.high, task.kinds, plan); waste != 0 || code != want {
		t.Errorf("PlanWaste(%v, %q) = %d, %d; want %d", task, shortName(plan), waste, code, want)
	}
}

// checkBestCuts checks the best value and the best plan of a sheet, the best grid and the bound, and
// that no grid exceeds the best value, nor this the bound.
func checkBestCuts(t *testing.T, task cutTask, best countedPlan, most int64) {
	t.Helper()
	value, code := impl.BestValue(task.size.wide, task.size.high, task.kinds)
	if value != most || code != impl.ErrNone {
		t.Fatalf("BestValue(%v) = %d, %d; want %d", task, value, code, most)
	}
	plan, code := impl.BestPlan(task.size.wide, task.size.high, task.kinds)
	if plan != best.text || code != impl.ErrNone {
		t.Fatalf("BestPlan(%v) = %q, %d; want %q", task, plan, code, best.text)
	}
	checkPlan(t, task, best)
	if value, code := impl.PlanValue(task.size.wide, task.size.high, task.kinds, plan); value != most || code != impl.ErrNone {
		t.Fatalf("PlanValue(%v, %q) = %d, %d; want the best value %d", task, plan, value, code, most)
	}
	wantKind, wantGrid := bestKindByHand(task)
	kind, grid, code := impl.BestKind(task.size.wide, task.size.high, task.kinds)
	if kind != wantKind || grid != wantGrid || code != impl.ErrNone {
		t.Fatalf("BestKind(%v) = %d, %d, %d; want %d, %d", task, kind, grid, code, wantKind, wantGrid)
	}
	bound, code := impl.DensityBound(task.size.wide, task.size.high, task.kinds)
	if bound != densityByHand(task) || code != impl.ErrNone {
		t.Fatalf("DensityBound(%v) = %d, %d; want %d", task, bound, code, densityByHand(task))
	}
	if grid > value || value > bound {
		t.Fatalf("%v: a grid has the value %d, the best plan %d, and the bound is %d", task, grid, value, bound)
	}
}

// checkNoCutting checks that all functions tell what is wrong with a sheet or with kinds, whatever
// the plan is.
func checkNoCutting(t *testing.T, task cutTask, want int64) {
	t.Helper()
	if value, code := impl.BestValue(task.size.wide, task.size.high, task.kinds); value != 0 || code != want {
		t.Errorf("BestValue(%v) = %d, %d; want %d", task, value, code, want)
	}
	if plan, code := impl.BestPlan(task.size.wide, task.size.high, task.kinds); plan != "" || code != want {
		t.Errorf("BestPlan(%v) = %q, %d; want %d", task, plan, code, want)
	}
	if kind, value, code := impl.BestKind(task.size.wide, task.size.high, task.kinds); kind != 0 || value != 0 || code != want {
		t.Errorf("BestKind(%v) = %d, %d, %d; want %d", task, kind, value, code, want)
	}
	if bound, code := impl.DensityBound(task.size.wide, task.size.high, task.kinds); bound != 0 || code != want {
		t.Errorf("DensityBound(%v) = %d, %d; want %d", task, bound, code, want)
	}
	for _, plan := range []string{".", "a", "", "g", "|1(.)(.)", "|0(.)(.)", "-1(a)(a"} {
		checkNoPlan(t, task, plan, want)
	}
}

// checkNoCatalogue checks that all functions tell that kinds are no catalogue, also if the sheet is
// none.
func checkNoCatalogue(t *testing.T, kinds []impl.Kind) {
	t.Helper()
	if impl.IsCatalogue(kinds) {
		t.Errorf("IsCatalogue(%v)", kinds)
	}
	for _, size := range []sheetSize{{1, 1}, {40, 40}, {5, 4}, {0, 4}, {5, 41}, {-1, math.MaxInt64}} {
		checkNoCutting(t, cutTask{size, kinds}, impl.ErrInvalid)
	}
}

// kindsOf returns the kinds of a text such as "3x2=7 2x2=4".
func kindsOf(text string) []impl.Kind {
	var kinds []impl.Kind
	for _, word := range strings.Fields(text) {
		var kind impl.Kind
		if _, err := fmt.Sscanf(word, "%dx%d=%d", &kind.Wide, &kind.High, &kind.Value); err != nil {
			panic(err)
		}
		kinds = append(kinds, kind)
	}
	return kinds
}

// kindsFrom returns n kinds with sides from 1 to greatest, which a seed tells, and values from 0 to
// most, or their areas if most is 0.
func kindsFrom(seed int64, n int, greatest int64, most int64) []impl.Kind {
	sides, values := lengthsFrom(seed, 2*n, 1, greatest), lengthsFrom(seed+7777, n, 0, max(1, most))
	kinds := make([]impl.Kind, n)
	for i := range kinds {
		kinds[i] = impl.Kind{Wide: sides[2*i], High: sides[2*i+1], Value: values[i]}
		if most == 0 {
			kinds[i].Value = min(1000, kinds[i].Wide*kinds[i].High)
		}
	}
	return kinds
}

// smallCatalogues returns catalogues of kinds that fit on small sheets, some of them one way only.
func smallCatalogues() [][]impl.Kind {
	return [][]impl.Kind{
		kindsOf("1x1=1"), kindsOf("1x1=0"), kindsOf("2x1=3"), kindsOf("1x2=3"), kindsOf("2x2=5"), kindsOf("3x2=7"), kindsOf("5x5=9"), kindsOf("40x1=1000"), kindsOf("3x3=1000"),
		kindsOf("3x2=7 2x2=4"), kindsOf("2x1=6 1x2=6"), kindsOf("1x2=6 2x1=6"), kindsOf("2x2=4 1x1=1"), kindsOf("2x2=0 3x2=0"), kindsOf("2x2=5 2x2=5"), kindsOf("2x2=4 2x2=5"), kindsOf("3x1=0 2x2=1"),
		kindsOf("2x3=6 3x2=6 2x2=4"), kindsOf("2x1=2 3x1=3 4x1=4"), kindsOf("1x3=5 3x1=5 9x9=999"), kindsOf("2x2=3 3x3=7 2x4=6 4x2=6"), kindsOf("1x4=0 4x3=0 3x4=1 4x4=1 2x4=0 4x2=0"),
	}
}

func TestIsCatalogue(t *testing.T) {
	if impl.MaxTable != 40 || impl.MaxKinds != 6 || impl.MaxValue != 1000 {
		t.Errorf("the limits are %d, %d and %d", impl.MaxTable, impl.MaxKinds, impl.MaxValue)
	}
	for n := 1; n <= 6; n++ {
		for _, kind := range kindsOf("1x1=0 1x1=1000 40x1=0 1x40=1 40x40=1000 2x39=999") {
			kinds := slices.Repeat([]impl.Kind{kind}, n)
			if !impl.IsCatalogue(kinds) {
				t.Errorf("IsCatalogue(%v) is false", kinds)
			}
			for i := range kinds {
				for _, side := range append(outOf(1, impl.MaxTable), -1, -kind.Wide, -kind.High) {
					wrong := slices.Clone(kinds)
					wrong[i].Wide = side
					checkNoCatalogue(t, wrong)
					wrong[i] = impl.Kind{Wide: kind.Wide, High: side, Value: kind.Value}
					checkNoCatalogue(t, wrong)
				}
				for _, value := range append(outOf(0, impl.MaxValue), -1, -1000) {
					wrong := slices.Clone(kinds)
					wrong[i].Value = value
					checkNoCatalogue(t, wrong)
				}
			}
		}
	}
}

// TestNumbersOfKinds checks catalogues with no kind and with too many, and ones with all limits.
func TestNumbersOfKinds(t *testing.T) {
	checkNoCatalogue(t, nil)
	checkNoCatalogue(t, []impl.Kind{})
	checkNoCatalogue(t, []impl.Kind{{}})
	for _, n := range []int{7, 8, 12, 26, 40, 1000} {
		for _, kind := range kindsOf("1x1=1 40x40=1000 1x1=0 0x1=1 0x0=0") {
			checkNoCatalogue(t, slices.Repeat([]impl.Kind{kind}, n))
		}
	}
	for n := 1; n <= 6; n++ {
		for _, kind := range kindsOf("1x1=1 40x40=1000 1x40=1000 40x1=0 1x1=1000") {
			kinds := slices.Repeat([]impl.Kind{kind}, n)
			for _, size := range []sheetSize{{1, 1}, {1, 40}, {40, 1}, {40, 40}} {
				search := newCutSearch(kinds)
				checkBestCuts(t, cutTask{size, kinds}, search.plan(size), search.value(size))
			}
		}
	}
}

// TestWrongTableSheets checks sheets with one or two sides that are out of range.
func TestWrongTableSheets(t *testing.T) {
	for _, kinds := range [][]impl.Kind{kindsOf("1x1=1"), kindsOf("40x40=1000 2x3=0"), slices.Repeat(kindsOf("3x2=7"), 6)} {
		for _, side := range append(outOf(1, impl.MaxTable), -1, -40, 1000) {
			for _, other := range []int64{1, 2, 39, 40, 0, 41, side, -side} {
				checkNoCutting(t, cutTask{sheetSize{side, other}, kinds}, impl.ErrRange)
				checkNoCutting(t, cutTask{sheetSize{other, side}, kinds}, impl.ErrRange)
			}
		}
	}
}

// TestBestPlan checks best plans that are told outright.
func TestBestPlan(t *testing.T) {
	pair := kindsOf("3x2=7 2x2=4")
	for _, x := range []struct {
		size  sheetSize
		kinds []impl.Kind
		value int64
		plan  string
	}{
		{sheetSize{5, 2}, pair, 11, "|2(b)(a)"}, {sheetSize{5, 4}, pair, 22, "|2(-2(b)(b))(-2(a)(a))"},
		// One piece: it fits exactly, with something left at the right, below, and both.
		{sheetSize{3, 2}, pair, 7, "a"}, {sheetSize{2, 2}, pair, 4, "b"}, {sheetSize{3, 3}, pair, 7, "a"}, {sheetSize{2, 3}, pair, 4, "b"}, {sheetSize{5, 3}, kindsOf("3x2=7"), 7, "a"}, {sheetSize{40, 40}, kindsOf("40x40=1"), 1, "a"}, {sheetSize{1, 1}, kindsOf("1x1=1000"), 1000, "a"},
		// A kind fits one way only, or just not.
		{sheetSize{2, 3}, kindsOf("3x2=7"), 0, "."}, {sheetSize{3, 2}, kindsOf("2x3=7"), 0, "."}, {sheetSize{4, 2}, kindsOf("2x4=9 4x2=8"), 8, "b"}, {sheetSize{2, 4}, kindsOf("2x4=9 4x2=8"), 9, "a"},
		{sheetSize{2, 2}, kindsOf("3x2=7"), 0, "."}, {sheetSize{3, 1}, kindsOf("3x2=7"), 0, "."}, {sheetSize{39, 40}, kindsOf("40x40=1"), 0, "."}, {sheetSize{40, 39}, kindsOf("40x40=1"), 0, "."},
		// The best value is 0, since nothing fits, or all that fits has the value 0.
		{sheetSize{1, 4}, pair, 0, "."}, {sheetSize{1, 1}, pair, 0, "."}, {sheetSize{40, 1}, pair, 0, "."}, {sheetSize{3, 3}, kindsOf("1x1=0"), 0, "."}, {sheetSize{3, 3}, kindsOf("4x1=9 3x3=0 1x1=0"), 0, "."}, {sheetSize{40, 40}, kindsOf("1x1=0 40x40=0"), 0, "."},
		// Several kinds have the best value, or a kind has it together with cuts.
		{sheetSize{2, 2}, kindsOf("2x2=6 2x2=6"), 6, "a"}, {sheetSize{3, 3}, kindsOf("2x2=5 3x2=6 2x3=6"), 6, "b"}, {sheetSize{2, 2}, kindsOf("1x1=1 2x2=4"), 4, "b"}, {sheetSize{2, 2}, kindsOf("2x2=4 1x1=1"), 4, "a"},
		{sheetSize{1, 1}, kindsOf("1x1=0 1x1=3 1x1=3"), 3, "b"}, {sheetSize{2, 2}, kindsOf("2x2=5 2x2=6 2x1=3 1x1=0"), 6, "b"}, {sheetSize{1, 1}, kindsOf("2x1=9 1x2=9 1x1=0 3x3=9 2x2=9 1x1=1"), 1, "f"},
		// Cuts have one unit more than a kind.
		{sheetSize{2, 2}, kindsOf("1x1=1 2x2=3"), 4, "|1(-1(a)(a))(-1(a)(a))"}, {sheetSize{2, 1}, kindsOf("2x1=7 1x1=4"), 8, "|1(b)(b)"}, {sheetSize{1, 2}, kindsOf("1x2=7 1x1=4"), 8, "-1(b)(b)"},
		// Several x are as good: the least one is 1 or more, and its first part may be waste.
		{sheetSize{4, 1}, kindsOf("1x1=1"), 4, "|1(a)(|1(a)(|1(a)(a)))"}, {sheetSize{5, 1}, kindsOf("2x1=4 3x1=6"), 10, "|2(a)(b)"}, {sheetSize{5, 1}, kindsOf("3x1=6 2x1=4"), 10, "|2(b)(a)"}, {sheetSize{6, 1}, kindsOf("3x1=2"), 4, "|3(a)(a)"},
		{sheetSize{5, 2}, kindsOf("2x2=4"), 8, "|1(.)(|2(a)(a))"}, {sheetSize{7, 1}, kindsOf("3x1=5"), 10, "|1(.)(|3(a)(a))"}, {sheetSize{8, 1}, kindsOf("3x1=5"), 10, "|1(.)(|1(.)(|3(a)(a)))"}, {sheetSize{40, 2}, kindsOf("20x1=3 20x2=7"), 14, "|20(b)(b)"},
		// The same with y.
		{sheetSize{1, 4}, kindsOf("1x1=1"), 4, "-1(a)(-1(a)(-1(a)(a)))"}, {sheetSize{1, 5}, kindsOf("1x2=4 1x3=6"), 10, "-2(a)(b)"}, {sheetSize{1, 5}, kindsOf("1x3=6 1x2=4"), 10, "-2(b)(a)"}, {sheetSize{3, 4}, kindsOf("3x2=7"), 14, "-2(a)(a)"}, {sheetSize{3, 5}, kindsOf("3x2=7"), 14, "-1(.)(-2(a)(a))"},
		{sheetSize{2, 40}, kindsOf("1x20=3 2x20=7"), 14, "-20(b)(b)"},
		// Both a | and a - are as good, or only one of them is.
		{sheetSize{2, 2}, kindsOf("1x1=1"), 4, "|1(-1(a)(a))(-1(a)(a))"}, {sheetSize{2, 2}, kindsOf("2x1=6 1x2=6"), 12, "|1(b)(b)"}, {sheetSize{2, 2}, kindsOf("2x1=7 1x2=6"), 14, "-1(a)(a)"}, {sheetSize{2, 2}, kindsOf("2x1=6 1x2=7"), 14, "|1(b)(b)"},
		{sheetSize{3, 3}, kindsOf("2x2=3 1x3=4 3x1=4"), 12, "|1(b)(|1(b)(b))"}, {sheetSize{3, 2}, kindsOf("3x1=3 1x2=2"), 6, "|1(b)(|1(b)(b))"}, {sheetSize{3, 2}, kindsOf("3x1=4 1x2=2"), 8, "-1(a)(a)"},
		// Four pieces would fit around a hole in the middle, but not with cuts from side to side.
		{sheetSize{5, 5}, kindsOf("3x2=6 2x3=6"), 18, "|1(.)(-2(a)(|2(b)(b)))"},
	} {
		task := cutTask{x.size, x.kinds}
		if value, code := impl.BestValue(x.size.wide, x.size.high, x.kinds); value != x.value || code != impl.ErrNone {
			t.Errorf("BestValue(%v) = %d, %d; want %d", task, value, code, x.value)
		}
		if plan, code := impl.BestPlan(x.size.wide, x.size.high, x.kinds); plan != x.plan || code != impl.ErrNone {
			t.Errorf("BestPlan(%v) = %q, %d; want %q", task, plan, code, x.plan)
		}
		search := newCutSearch(x.kinds)
		checkBestCuts(t, task, search.plan(x.size), search.value(x.size))
	}
}

// TestAllPlans checks all plans of small sheets, and that the best plan is the first one of the
// greatest value.
func TestAllPlans(t *testing.T) {
	for _, kinds := range smallCatalogues() {
		maker, search := newPlanMaker(kinds), newCutSearch(kinds)
		for _, size := range []sheetSize{{1, 1}, {2, 1}, {1, 2}, {3, 1}, {1, 3}, {4, 1}, {1, 4}, {5, 1}, {1, 5}, {2, 2}, {3, 2}, {2, 3}} {
			task := cutTask{size, kinds}
			for plan := range maker.eachPlan(size) {
				checkPlan(t, task, plan)
			}
			best, most := bestOfAllPlans(task)
			checkBestCuts(t, task, best, most)
			if search.value(size) != most || search.plan(size) != best {
				t.Fatalf("the best plan of %v is %q or %q", task, best.text, search.plan(size).text)
			}
		}
	}
}

// TestBestOfAllPlans checks the best plans of somewhat greater sheets against a search of all plans.
func TestBestOfAllPlans(t *testing.T) {
	sizes := []sheetSize{{6, 1}, {1, 6}, {4, 2}, {2, 4}, {3, 3}}
	for _, kinds := range smallCatalogues() {
		for _, size := range sizes {
			// A second kind beside one of a single cell makes too many plans.
			if len(kinds) > 1 && size == (sheetSize{3, 3}) && slices.Contains(kinds, impl.Kind{Wide: 1, High: 1, Value: 1}) {
				continue
			}
			task := cutTask{size, kinds}
			best, most := bestOfAllPlans(task)
			checkBestCuts(t, task, best, most)
		}
	}
	for seed := range int64(60) {
		kinds := kindsFrom(seed, 1+int(seed%3), 3, []int64{0, 4, 9}[seed/3%3])
		for i := range kinds {
			// No kind has a single cell: there would be too many plans.
			kinds[i].High = max(kinds[i].High, 3-kinds[i].Wide)
		}
		for _, size := range sizes[:4] {
			best, most := bestOfAllPlans(cutTask{size, kinds})
			checkBestCuts(t, cutTask{size, kinds}, best, most)
		}
	}
	for _, kinds := range [][]impl.Kind{kindsOf("3x2=6"), kindsOf("2x2=1"), kindsOf("4x3=7 2x4=5"), kindsOf("3x3=8 1x4=3"), kindsOf("4x2=5 3x2=4")} {
		for _, size := range []sheetSize{{4, 3}, {3, 4}} {
			best, most := bestOfAllPlans(cutTask{size, kinds})
			checkBestCuts(t, cutTask{size, kinds}, best, most)
		}
	}
}

// TestBestPlansOfManySheets checks all small sheets with some catalogues, and greater ones with many,
// among them some with small values, for which many plans are as good.
func TestBestPlansOfManySheets(t *testing.T) {
	for seed := range int64(40) {
		kinds := kindsFrom(seed, 1+int(seed%6), 3+seed%4, []int64{0, 2, 7, 1000}[seed/6%4])
		search := newCutSearch(kinds)
		for wide := int64(1); wide <= 10; wide++ {
			for high := int64(1); high <= 10; high++ {
				size := sheetSize{wide, high}
				checkBestCuts(t, cutTask{size, kinds}, search.plan(size), search.value(size))
			}
		}
	}
	for seed := range int64(240) {
		kinds := kindsFrom(1000+seed, 1+int(seed%6), []int64{5, 12, 25, 40}[seed/6%4], []int64{0, 3, 60, 1000}[seed/24%4])
		search := newCutSearch(kinds)
		sides := lengthsFrom(seed, 2, 1, 40)
		for _, size := range []sheetSize{{sides[0], sides[1]}, {40, sides[0]}, {sides[1], 39}, {40, 40}} {
			checkBestCuts(t, cutTask{size, kinds}, search.plan(size), search.value(size))
		}
	}
}

// TestGreatestValue checks the most pieces of the greatest value that there can be.
func TestGreatestValue(t *testing.T) {
	task := cutTask{sheetSize{40, 40}, kindsOf("1x1=1000")}
	plan, code := impl.BestPlan(40, 40, task.kinds)
	if strings.Count(plan, "a") != 1600 || code != impl.ErrNone {
		t.Errorf("BestPlan(%v) has %d pieces; code %d", task, strings.Count(plan, "a"), code)
	}
	checkBestCuts(t, task, countedPlan{plan, [6]int64{1600}}, 1600000)
	for name, got := range map[string]func() (int64, int64){
		"BestValue":    func() (int64, int64) { return impl.BestValue(40, 40, task.kinds) },
		"PlanValue":    func() (int64, int64) { return impl.PlanValue(40, 40, task.kinds, plan) },
		"DensityBound": func() (int64, int64) { return impl.DensityBound(40, 40, task.kinds) },
	} {
		if value, code := got(); value != 1600000 || code != impl.ErrNone {
			t.Errorf("%s is %d, %d", name, value, code)
		}
	}
	if waste, code := impl.PlanWaste(40, 40, task.kinds, plan); waste != 0 || code != impl.ErrNone {
		t.Errorf("PlanWaste = %d, %d", waste, code)
	}
	for _, wrong := range []string{plan[:len(plan)-1], plan + ")", plan[1:], plan + plan, strings.Replace(plan, "a", "b", 1), plan[:len(plan)-2] + "b)"} {
		checkNoPlan(t, task, wrong, impl.ErrSyntax)
	}
}

// TestSingleMarks checks plans of one character: waste and the letters of kinds that are there, or
// are not, or do not fit.
func TestSingleMarks(t *testing.T) {
	all := kindsOf("1x1=1 5x4=20 6x1=9 1x5=9 5x1=3 1x4=0")
	for n := 1; n <= 6; n++ {
		task := cutTask{sheetSize{5, 4}, all[:n]}
		checkPlan(t, task, countedPlan{text: "."})
		right := map[string]int{"a": 0, "b": 1, "e": 4, "f": 5}
		for c := range 256 {
			text := string([]byte{byte(c)})
			i, fits := right[text]
			if text == "." {
				continue
			}
			if !fits || i >= n {
				checkNoPlan(t, task, text, impl.ErrSyntax)
				continue
			}
			plan := countedPlan{text: text}
			plan.counts[i] = 1
			checkPlan(t, task, plan)
		}
		for _, text := range []string{"", "..", "aa", "a.", ".a", "ab", ". ", " .", "a ", " a", "a\n", "a\x00", "(.)", "(a)", "ａ", "á", "A"} {
			checkNoPlan(t, task, text, impl.ErrSyntax)
		}
	}
}

// TestPiecesOfParts checks letters of kinds in parts of the sheet, which they fit or do not fit.
func TestPiecesOfParts(t *testing.T) {
	task := cutTask{sheetSize{5, 4}, kindsOf("3x2=7 2x2=4 2x3=5")}
	for _, x := range []struct {
		text   string
		counts [6]int64
	}{
		{"|3(a)(.)", [6]int64{1}}, {"|3(.)(b)", [6]int64{0, 1}}, {"|2(c)(a)", [6]int64{1, 0, 1}}, {"-2(a)(b)", [6]int64{1, 1}}, {"-1(.)(a)", [6]int64{1}}, {"-1(.)(c)", [6]int64{0, 0, 1}}, {"-3(c)(.)", [6]int64{0, 0, 1}},
		{"|2(-2(b)(b))(-2(a)(a))", [6]int64{2, 2}}, {"|1(.)(|2(c)(-2(b)(b)))", [6]int64{0, 2, 1}}, {"-2(|3(a)(b))(|3(a)(b))", [6]int64{2, 2}}, {"|3(-2(a)(a))(-2(b)(b))", [6]int64{2, 2}}, {"|4(|2(b)(c))(-3(.)(.))", [6]int64{0, 1, 1}},
	} {
		checkPlan(t, task, countedPlan{x.text, x.counts})
	}
	for _, text := range []string{
		"|2(a)(.)", "|3(.)(a)", "|4(.)(b)", "|1(b)(.)", "-1(a)(.)", "-3(.)(a)", "-2(c)(.)", "-2(.)(c)", "-1(c)(.)", "|2(-2(b)(c))(.)", "|2(-2(b)(b))(-1(a)(a))", "|2(-2(a)(b))(-2(a)(a))", "|2(-2(b)(b))(-2(a)(d))", "|2(c)(|1(b)(.))", "-3(c)(b)",
	} {
		checkNoPlan(t, task, text, impl.ErrSyntax)
	}
}

// TestPlanNumbers checks all numbers of cuts near the sides of a sheet, and other ways to write them.
func TestPlanNumbers(t *testing.T) {
	kinds := kindsOf("1x1=1")
	for _, size := range []sheetSize{{1, 1}, {2, 1}, {1, 2}, {3, 2}, {9, 10}, {10, 9}, {11, 12}, {40, 1}, {1, 40}, {40, 40}, {39, 40}} {
		task := cutTask{size, kinds}
		for n := int64(0); n <= 130; n++ {
			text := strconv.FormatInt(n, 10)
			for sign, side := range map[string]int64{"|": size.wide, "-": size.high} {
				for _, plan := range []countedPlan{{sign + text + "(.)(.)", [6]int64{}}, {sign + text + "(.)(a)", [6]int64{1}}, {sign + text + "(a)(a)", [6]int64{2}}} {
					if n >= 1 && n < side {
						checkPlan(t, task, plan)
					} else {
						checkNoPlan(t, task, plan.text, impl.ErrSyntax)
					}
				}
				checkNoPlan(t, task, sign+"0"+text+"(.)(.)", impl.ErrSyntax)
				checkNoPlan(t, task, sign+"+"+text+"(.)(.)", impl.ErrSyntax)
				checkNoPlan(t, task, sign+"-"+text+"(.)(.)", impl.ErrSyntax)
			}
		}
	}
	for _, text := range []string{
		"", " ", "+", "-", "|", ".", "a", "x", "1 ", " 1", "1.", "1.0", "1,", "1a", "a1", "0x1", "0b1", "0o1", "1e0", "1_0", "_1", "1_", "00", "000", "001", "0010", "१", "１", "\x00", "1\x00", "1\n", "1-", "1|", "--1", "++1", "-0",
		"256", "257", "65537", "4294967296", "4294967297", "9223372036854775807", "9223372036854775808", "18446744073709551616", "18446744073709551617", "-18446744073709551615", "1000000000000000000000", strings.Repeat("1", 1000), "1" + strings.Repeat("0", 5000), strings.Repeat("0", 1000) + "1",
	} {
		for _, sign := range []string{"|", "-"} {
			for _, parts := range []string{"(.)(.)", "(a)(a)", "", "(", "(.)"} {
				checkNoPlan(t, cutTask{sheetSize{40, 40}, kinds}, sign+text+parts, impl.ErrSyntax)
			}
		}
	}
}

// TestPlanBrackets checks brackets that are missing, too many, others, or the wrong way round, and
// texts behind the last one.
func TestPlanBrackets(t *testing.T) {
	task := cutTask{sheetSize{5, 4}, kindsOf("3x2=7 2x2=4")}
	for _, text := range []string{
		"|", "-", "|2", "-2", "|2(", "|2(b", "|2(b)", "|2(b)(", "|2(b)(a", "|2b)(a)", "|2(b(a)", "|2(b)a)", "|2(b)a", "|2b(a)", "|2ba", "|2b|a", "|2(ba)", "|2(b,a)", "|2()(a)", "|2(b)()", "|2()()", "|2(b)(a))", "|2(b))(a)", "|2((b)(a)", "|2((b))(a)", "|2(b)((a))", "|2(b)((a)",
		"(|2(b)(a))", "(|2(b)(a)", "|(2)(b)(a)", "|2(b)(a)(a)", "|2(b)(a)()", "|2)b((a)", "|2)b()a(", "|2(b()a)", "|2(b)(a(", "|2[b][a]", "|2{b}{a}", "|2<b><a>", "|2(b](a)", "|2 (b)(a)", "|2( b)(a)", "|2(b )(a)", "|2(b) (a)", "|2(b)(a )", "|2(b)(a) ", " |2(b)(a)", "|2(b)(a)\n", "|2(b)(a)\x00",
		"|2(b)(a)x", "|2(b)(a).", "|2(b)(a)a", "|2(b)(a)1", "|2(b)(a)|", "|2(b)(a)|2(b)(a)", "|2(b)(a)-2(b)(a)", ".|2(b)(a)", "a|2(b)(a)", "2(b)(a)", "2|(b)(a)", "/2(b)(a)", "\\2(b)(a)", "¦2(b)(a)", "–2(a)(a)", "_2(a)(a)", "+2(a)(a)", "!2(b)(a)", "||2(b)(a)", "|-2(b)(a)", "-|2(b)(a)", "|2|(b)(a)",
		")", "(", "()", ")(", "((((", "))))", "|2(b)(a", "|2(-2(b)(b)(-2(a)(a))", "|2(-2(b)(b))(-2(a)(a)", "|2(-2(b)(b))(-2(a)(a)))", "|2(-2(b)(b)))(-2(a)(a))", "|2-2(b)(b)(-2(a)(a))", "|2(-2(b))(-2(a)(a))", "|2(-2(b)(b)(b))(-2(a)(a))",
	} {
		checkNoPlan(t, task, text, impl.ErrSyntax)
		checkNoPlan(t, task, strings.ReplaceAll(text, "|", "-"), impl.ErrSyntax)
	}
	checkPlan(t, task, countedPlan{"|2(b)(a)", [6]int64{1, 1}})
	checkPlan(t, task, countedPlan{"-2(b)(a)", [6]int64{1, 1}})
}

// TestChangedPlans checks all plans of small sheets with one character more, less, or another one:
// some are plans again, and all others are none.
func TestChangedPlans(t *testing.T) {
	for _, task := range []cutTask{
		{sheetSize{1, 1}, kindsOf("1x1=1")}, {sheetSize{2, 2}, kindsOf("1x2=3")}, {sheetSize{3, 1}, kindsOf("1x1=1 2x1=3")}, {sheetSize{1, 4}, kindsOf("1x2=5")}, {sheetSize{3, 2}, kindsOf("3x2=6 4x1=1")},
	} {
		right := newPlanMaker(task.kinds).texts(task.size)
		for _, text := range slices.Sorted(maps.Keys(right)) {
			for i := range len(text) + 1 {
				changed := []string{text[:i]}
				for _, c := range strings.Split(".ab|-()0123", "") {
					changed = append(changed, text[:i]+c+text[i:])
					if i < len(text) {
						changed = append(changed, text[:i]+text[i+1:], text[:i]+c+text[i+1:])
					}
				}
				for _, s := range changed {
					if _, code := impl.PlanCounts(task.size.wide, task.size.high, task.kinds, s); right[s] != (code == impl.ErrNone) {
						t.Fatalf("PlanCounts(%v, %q): code %d", task, s, code)
					}
					if !right[s] {
						checkNoPlan(t, task, s, impl.ErrSyntax)
					}
				}
			}
		}
	}
}

// TestShortTexts checks all texts of a few characters, and of some more parts of plans.
func TestShortTexts(t *testing.T) {
	task := cutTask{sheetSize{2, 2}, kindsOf("2x1=3 1x1=1")}
	right := newPlanMaker(task.kinds).texts(task.size)
	for parts, most := range map[string]int{". a b c | - 1 ( ) 0": 4, ". a b |1 -1 ( )": 7} {
		texts := []string{""}
		for range most {
			var longer []string
			for _, text := range texts {
				for _, part := range strings.Fields(parts) {
					longer = append(longer, text+part)
				}
			}
			for _, text := range longer {
				value, code := impl.PlanValue(2, 2, task.kinds, text)
				if right[text] != (code == impl.ErrNone) || !right[text] && (value != 0 || code != impl.ErrSyntax) {
					t.Fatalf("PlanValue(%v, %q) = %d, %d", task, text, value, code)
				}
			}
			texts = longer
		}
	}
}

// TestDeepPlans checks the deepest plans that there are, and such that are too deep by one cut.
func TestDeepPlans(t *testing.T) {
	task := cutTask{sheetSize{40, 40}, kindsOf("1x1=1")}
	across, along := strings.Repeat("|1(.)(", 39), strings.Repeat("-1(a)(", 39)
	checkPlan(t, task, countedPlan{across + along + "a" + strings.Repeat(")", 78), [6]int64{40}})
	checkPlan(t, task, countedPlan{along + across + "." + strings.Repeat(")", 78), [6]int64{39}})
	both := strings.Repeat("-1(a)(|1(a)(", 39)
	checkPlan(t, task, countedPlan{both + "a" + strings.Repeat(")", 78), [6]int64{79}})
	var open, closed strings.Builder
	for n := 39; n > 0; n-- {
		number := strconv.Itoa(n)
		open.WriteString("|" + number + "(-" + number + "(")
		closed.WriteString(")(a))(a)")
	}
	checkPlan(t, task, countedPlan{open.String() + "a" + closed.String(), [6]int64{79}})
	for _, sign := range []string{"|", "-"} {
		deeper := sign + "1(.)(.)"
		checkNoPlan(t, task, across+along+deeper+strings.Repeat(")", 78), impl.ErrSyntax)
		checkNoPlan(t, task, along+across+deeper+strings.Repeat(")", 78), impl.ErrSyntax)
		checkNoPlan(t, task, both+deeper+strings.Repeat(")", 78), impl.ErrSyntax)
		checkNoPlan(t, task, open.String()+deeper+closed.String(), impl.ErrSyntax)
	}
	for _, n := range []int{0, 1, 77, 79, 1000} {
		checkNoPlan(t, task, across+along+"a"+strings.Repeat(")", n), impl.ErrSyntax)
	}
}

// TestLongTexts checks very long texts that are no plans.
func TestLongTexts(t *testing.T) {
	task := cutTask{sheetSize{40, 40}, kindsOf("1x1=1 2x2=3")}
	const many = 1000000
	for _, part := range []string{".", "a", "b", "c", "|", "-", "(", ")", "1", "0", " ", "|1(", "-1(", "|39(", "-39(", "|1(.)(", "-1(.)(", "|1(-1(", "|1(.)(.)", "|1(a)(b)", "()", ")(", "(.)", "|(", "\x00", "\xff", "ａ"} {
		long := strings.Repeat(part, many)
		for _, text := range []string{long, "|1" + long, "|1(" + long, "|1(.)(" + long, "-2(a)(b)" + long, "|" + long + "(.)(.)", "-1(.)(" + long + ")", "." + long, "a" + long} {
			checkNoPlan(t, task, text, impl.ErrSyntax)
		}
	}
}

func TestBestKind(t *testing.T) {
	for _, x := range []struct {
		size        sheetSize
		kinds       []impl.Kind
		kind, value int64
	}{
		{sheetSize{5, 4}, kindsOf("3x2=7 2x2=4"), 1, 16}, {sheetSize{6, 4}, kindsOf("3x2=7 2x2=4"), 0, 28}, {sheetSize{40, 40}, kindsOf("1x1=1000 40x40=1000"), 0, 1600000},
		// Several grids have the same value, with one and with different numbers of pieces.
		{sheetSize{5, 5}, kindsOf("2x3=6 3x2=6"), 0, 12}, {sheetSize{4, 4}, kindsOf("4x4=15 2x2=4 1x1=1 4x2=8"), 1, 16}, {sheetSize{4, 4}, kindsOf("5x1=1000 1x1=0 4x1=3 1x4=3 2x2=3"), 2, 12}, {sheetSize{3, 3}, slices.Repeat(kindsOf("2x2=9"), 6), 0, 9},
		// Nothing fits, or what fits has the value 0.
		{sheetSize{1, 4}, kindsOf("2x2=9 2x1=9"), 0, 0}, {sheetSize{3, 3}, kindsOf("4x3=9 1x1=0 2x2=0"), 0, 0}, {sheetSize{1, 1}, kindsOf("2x1=9 1x1=0 1x1=1"), 2, 1},
		// Sides that divide evenly, and one less or more.
		{sheetSize{6, 6}, kindsOf("1x1=1 3x2=7"), 1, 42}, {sheetSize{5, 6}, kindsOf("1x1=1 3x2=7"), 0, 30}, {sheetSize{6, 5}, kindsOf("1x1=1 3x2=7"), 0, 30}, {sheetSize{7, 7}, kindsOf("1x1=1 3x2=8"), 0, 49}, {sheetSize{7, 7}, kindsOf("1x1=1 3x2=9"), 1, 54},
		{sheetSize{40, 40}, kindsOf("21x20=3 20x21=3 20x20=2"), 2, 8}, {sheetSize{40, 1}, kindsOf("13x1=5 14x1=7"), 0, 15},
	} {
		kind, value, code := impl.BestKind(x.size.wide, x.size.high, x.kinds)
		if kind != x.kind || value != x.value || code != impl.ErrNone {
			t.Errorf("BestKind(%v, %v) = %d, %d, %d; want %d, %d", x.size, x.kinds, kind, value, code, x.kind, x.value)
		}
		search := newCutSearch(x.kinds)
		checkBestCuts(t, cutTask{x.size, x.kinds}, search.plan(x.size), search.value(x.size))
	}
}

func TestDensityBound(t *testing.T) {
	for _, x := range []struct {
		size  sheetSize
		kinds []impl.Kind
		want  int64
	}{
		// It divides evenly, is rounded down just below the next number, and just above the last one.
		{sheetSize{6, 4}, kindsOf("3x2=7"), 28}, {sheetSize{5, 4}, kindsOf("3x2=7 2x2=4"), 23}, {sheetSize{5, 1}, kindsOf("2x3=1"), 0}, {sheetSize{1, 1}, kindsOf("2x1=3"), 1}, {sheetSize{5, 5}, kindsOf("2x2=1"), 6}, {sheetSize{5, 5}, kindsOf("2x3=1"), 4}, {sheetSize{3, 3}, kindsOf("2x5=9"), 8},
		// Kinds that do not fit count, too. The densest kind is the first, a middle or the last one.
		{sheetSize{1, 1}, kindsOf("40x40=1000"), 0}, {sheetSize{2, 1}, kindsOf("40x40=1000"), 1}, {sheetSize{1, 1}, kindsOf("2x2=40"), 10}, {sheetSize{3, 4}, kindsOf("1x5=10 1x1=1 6x1=6"), 24}, {sheetSize{3, 4}, kindsOf("1x1=1 5x1=10 6x1=6"), 24}, {sheetSize{3, 4}, kindsOf("1x1=1 6x1=6 7x1=13"), 22},
		// Several kinds have the same density, or differ by less than one.
		{sheetSize{3, 3}, kindsOf("2x2=4 1x1=1 3x1=3"), 9}, {sheetSize{2, 2}, kindsOf("3x1=4 4x1=5"), 5}, {sheetSize{3, 1}, kindsOf("2x1=1 7x1=4"), 1},
		// The least and the greatest numbers.
		{sheetSize{40, 40}, kindsOf("1x1=0 40x40=0"), 0}, {sheetSize{40, 40}, kindsOf("1x1=1000"), 1600000}, {sheetSize{40, 40}, kindsOf("40x40=1000"), 1000}, {sheetSize{39, 40}, kindsOf("40x40=1000"), 975}, {sheetSize{1, 1}, kindsOf("1x1=1000"), 1000}, {sheetSize{1, 1}, kindsOf("1x1=0"), 0},
	} {
		if bound, code := impl.DensityBound(x.size.wide, x.size.high, x.kinds); bound != x.want || code != impl.ErrNone {
			t.Errorf("DensityBound(%v, %v) = %d, %d; want %d", x.size, x.kinds, bound, code, x.want)
		}
		if bound := densityByHand(cutTask{x.size, x.kinds}); bound != x.want {
			t.Errorf("%v, %v has the bound %d", x.size, x.kinds, bound)
		}
	}
}

// TestSameCutsEveryTime checks that calls give the same results every time, also when some of them
// are made at the same time, and also after calls with plans that are wrong.
func TestSameCutsEveryTime(t *testing.T) {
	for _, task := range []cutTask{{sheetSize{7, 7}, kindsOf("1x1=1")}, {sheetSize{5, 4}, kindsOf("3x2=7 2x2=4")}, {sheetSize{20, 20}, kindsFrom(5, 6, 9, 3)}, {sheetSize{3, 3}, kindsOf("1x1=0")}} {
		search := newCutSearch(task.kinds)
		best, most := search.plan(task.size), search.value(task.size)
		var calls sync.WaitGroup
		for range 8 {
			calls.Go(func() {
				for range 20 {
					checkNoPlan(t, task, best.text+")", impl.ErrSyntax)
					plan, code := impl.BestPlan(task.size.wide, task.size.high, task.kinds)
					value, _ := impl.BestValue(task.size.wide, task.size.high, task.kinds)
					counts, _ := impl.PlanCounts(task.size.wide, task.size.high, task.kinds, best.text)
					if plan != best.text || value != most || code != impl.ErrNone || !slices.Equal(counts, best.counts[:len(task.kinds)]) {
						t.Errorf("%v has the best plan %q, %d, %v; code %d", task, plan, value, counts, code)
					}
				}
			})
		}
		calls.Wait()
	}
}

// TestBestCutsKeepTheirArguments checks that no catalogue is changed, nor the capacity behind it, and that
// counts share no memory with one another.
func TestBestCutsKeepTheirArguments(t *testing.T) {
	spare := impl.Kind{Wide: 77, High: 78, Value: 79}
	for n := 1; n <= 6; n++ {
		want := kindsFrom(int64(n), n, 4, 0)
		kinds := spareCopy(want, spare)
		impl.IsCatalogue(kinds)
		impl.BestValue(9, 8, kinds)
		plan, _ := impl.BestPlan(9, 8, kinds)
		impl.BestKind(9, 8, kinds)
		impl.DensityBound(9, 8, kinds)
		for _, text := range []string{plan, plan + "x", "|1(a", "."} {
			impl.PlanValue(9, 8, kinds, text)
			impl.PlanCounts(9, 8, kinds, text)
			impl.PlanWaste(9, 8, kinds, text)
		}
		if !keptSpare(kinds, want, spare) {
			t.Fatalf("%v was changed to %v", want, kinds[:n+3])
		}
		counts, code := impl.PlanCounts(9, 8, kinds, plan)
		if code != impl.ErrNone || len(counts) != n {
			t.Fatalf("PlanCounts(9, 8, %v, %q) = %v, %d", kinds, plan, counts, code)
		}
		kept := slices.Clone(counts)
		second, _ := impl.PlanCounts(9, 8, kinds, plan)
		clear(second[:cap(second)])
		clear(kinds[:n+3])
		if !slices.Equal(counts, kept) {
			t.Errorf("counts share memory with others or with kinds")
		}
	}
}
