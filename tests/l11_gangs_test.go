package tests

import (
	"iter"
	"math"
	"slices"
	"sync"
	"testing"

	"loop.example/g00944/impl"
)

// gangTask is slots of a sheet and quantities of jobs, a gang or not.
type gangTask struct {
	slots      int64
	quantities []int64
}

// sheetsNeeded returns how many sheets give a quantity of a job that stands on some slots of each.
func sheetsNeeded(quantity int64, up int64) int64 {
	sheets := quantity / up
	for sheets*up < quantity {
		sheets++
	}
	return sheets
}

// sheetsByHand returns the greatest number of sheets that a job needs.
func sheetsByHand(task gangTask, ups []int64) int64 {
	var run int64
	for job, quantity := range task.quantities {
		run = max(run, sheetsNeeded(quantity, ups[job]))
	}
	return run
}

// areUpsByHand reports whether a list is ups of a gang. It adds numbers of slots only.
func areUpsByHand(task gangTask, ups []int64) bool {
	var sum int64
	for _, up := range ups {
		if up < 1 || up > task.slots {
			return false
		}
		sum += up
	}
	return len(ups) == len(task.quantities) && sum <= task.slots
}

// eachUps hands out all ups of a gang, lexicographically. The list is the same one each time.
func eachUps(task gangTask) iter.Seq[[]int64] {
	return func(yield func([]int64) bool) {
		ups := make([]int64, 0, len(task.quantities))
		var extend func(left int64) bool
		extend = func(left int64) bool {
			job := len(ups)
			if job == len(task.quantities) {
				return yield(ups)
			}
			for up := int64(1); up <= left; up++ {
				ups = append(ups, up)
				if !extend(left - up) {
					return false
				}
				ups = ups[:job]
			}
			return true
		}
		extend(task.slots)
	}
}

// leastRunByHand returns the least run of all ups, found one by one.
func leastRunByHand(task gangTask) int64 {
	least := int64(math.MaxInt64)
	for ups := range eachUps(task) {
		least = min(least, sheetsByHand(task, ups))
	}
	return least
}

// leastRunByGiving returns the least run without a look at all ups: each job gets a slot, and then
// the one that needs the most sheets gets one more as long as there are any.
func leastRunByGiving(task gangTask) int64 {
	ups := slices.Repeat([]int64{1}, len(task.quantities))
	for range task.slots - int64(len(ups)) {
		most := 0
		for job, quantity := range task.quantities {
			if sheetsNeeded(quantity, ups[job]) > sheetsNeeded(task.quantities[most], ups[most]) {
				most = job
			}
		}
		ups[most]++
	}
	return sheetsByHand(task, ups)
}

// leastUpsByHand returns the least ups with which a run is enough, and true, or nil and false if
// they do not have room: each job takes slots one after another.
func leastUpsByHand(task gangTask, run int64) ([]int64, bool) {
	ups, left := make([]int64, len(task.quantities)), task.slots
	for job, quantity := range task.quantities {
		for ups[job]*run < quantity {
			if left == 0 {
				return nil, false
			}
			ups[job]++
			left--
		}
	}
	return ups, true
}

// firstLists returns all lists of jobs of n that are strictly increasing and begin with 0,
// lexicographically.
func firstLists(n int) [][]int64 {
	var lists [][]int64
	var extend func(list []int64)
	extend = func(list []int64) {
		lists = append(lists, list)
		for job := list[len(list)-1] + 1; job < int64(n); job++ {
			extend(append(slices.Clip(list), job))
		}
	}
	extend([]int64{0})
	return lists
}

// formsOf returns the forms of a gang that is divided: one, or two with all slots each.
func formsOf(task gangTask, first []int64) []gangTask {
	chosen, others := []int64{}, slices.Clone(task.quantities)
	for i, job := range first {
		chosen = append(chosen, task.quantities[job])
		others = slices.Delete(others, int(job)-i, int(job)-i+1)
	}
	if len(others) == 0 {
		return []gangTask{task}
	}
	return []gangTask{{task.slots, chosen}, {task.slots, others}}
}

// costByHand returns the cost of a gang that is divided, with least runs that a function finds.
func costByHand(task gangTask, first []int64, setup int64, leastRun func(gangTask) int64) int64 {
	var cost int64
	for _, form := range formsOf(task, first) {
		cost += leastRun(form) + setup
	}
	return cost
}

// bestListsByHand returns all lists of the least cost, lexicographically, and this cost.
func bestListsByHand(task gangTask, setup int64) ([][]int64, int64) {
	var best [][]int64
	least := int64(math.MaxInt64)
	for _, first := range firstLists(len(task.quantities)) {
		cost := costByHand(task, first, setup, leastRunByGiving)
		if cost < least {
			best, least = nil, cost
		}
		if cost == least {
			best = append(best, first)
		}
	}
	return best, least
}

// bestByHandOf returns the best one of lists that are in lexicographic order: the first one of the
// longest ones.
func bestByHandOf(lists [][]int64) []int64 {
	var best []int64
	for _, list := range lists {
		if len(list) > len(best) {
			best = list
		}
	}
	return best
}

// checkUps checks the run and the overs of ups.
func checkUps(t *testing.T, task gangTask, ups []int64) {
	t.Helper()
	want := sheetsByHand(task, ups)
	if run, code := impl.RunFor(task.slots, task.quantities, ups); run != want || code != impl.ErrNone {
		t.Fatalf("RunFor(%d, %v, %v) = %d, %d; want %d", task.slots, task.quantities, ups, run, code, want)
	}
	var overs []int64
	for job, quantity := range task.quantities {
		overs = append(overs, want*ups[job]-quantity)
	}
	if got, code := impl.OversOf(task.slots, task.quantities, ups); !slices.Equal(got, overs) || code != impl.ErrNone {
		t.Fatalf("OversOf(%d, %v, %v) = %v, %d; want %v", task.slots, task.quantities, ups, got, code, overs)
	}
	if slices.Min(overs) < 0 {
		t.Fatalf("a run of %d is not enough for %v with the ups %v", want, task.quantities, ups)
	}
}

// checkNoUps checks that a list is no ups of a gang.
func checkNoUps(t *testing.T, task gangTask, ups []int64, want int64) {
	t.Helper()
	if run, code := impl.RunFor(task.slots, task.quantities, ups); run != 0 || code != want {
		t.Errorf("RunFor(%d, %v, %v) = %d, %d; want %d", task.slots, task.quantities, ups, run, code, want)
	}
	if overs, code := impl.OversOf(task.slots, task.quantities, ups); overs != nil || code != want {
		t.Errorf("OversOf(%d, %v, %v) = %v, %d; want %d", task.slots, task.quantities, ups, overs, code, want)
	}
}

// checkNoUpsFor checks that there are no ups for a run.
func checkNoUpsFor(t *testing.T, task gangTask, run int64, want int64) {
	t.Helper()
	if ups, code := impl.UpsFor(task.slots, task.quantities, run); ups != nil || code != want {
		t.Errorf("UpsFor(%d, %v, %d) = %v, %d; want %d", task.slots, task.quantities, run, ups, code, want)
	}
}

// checkUpsFor checks the least ups for a run, or that they do not have room.
func checkUpsFor(t *testing.T, task gangTask, run int64) {
	t.Helper()
	want, ok := leastUpsByHand(task, run)
	if !ok {
		checkNoUpsFor(t, task, run, impl.ErrNotFound)
		return
	}
	if ups, code := impl.UpsFor(task.slots, task.quantities, run); !slices.Equal(ups, want) || code != impl.ErrNone {
		t.Fatalf("UpsFor(%d, %v, %d) = %v, %d; want %v", task.slots, task.quantities, run, ups, code, want)
	}
	checkUps(t, task, want)
}

// checkGang checks what the functions say of a gang with a least run, and that there is not enough
// room for one sheet less.
func checkGang(t *testing.T, task gangTask, least int64) {
	t.Helper()
	if !impl.IsGang(task.slots, task.quantities) {
		t.Fatalf("IsGang(%d, %v) is false", task.slots, task.quantities)
	}
	if run, code := impl.LeastRun(task.slots, task.quantities); run != least || code != impl.ErrNone {
		t.Fatalf("LeastRun(%d, %v) = %d, %d; want %d", task.slots, task.quantities, run, code, least)
	}
	want, _ := leastUpsByHand(task, least)
	ups, code := impl.BestUps(task.slots, task.quantities)
	if !slices.Equal(ups, want) || code != impl.ErrNone {
		t.Fatalf("BestUps(%d, %v) = %v, %d; want %v", task.slots, task.quantities, ups, code, want)
	}
	if run, code := impl.RunFor(task.slots, task.quantities, ups); run != least || code != impl.ErrNone {
		t.Fatalf("RunFor(%d, %v, %v) = %d, %d; want the least run %d", task.slots, task.quantities, ups, run, code, least)
	}
	checkUpsFor(t, task, least)
	if least > 1 {
		checkNoUpsFor(t, task, least-1, impl.ErrNotFound)
	} else {
		checkNoUpsFor(t, task, least-1, impl.ErrRange)
	}
}

// checkDivided checks the cost of a gang that is divided.
func checkDivided(t *testing.T, task gangTask, first []int64, setup int64, want int64) {
	t.Helper()
	if cost, code := impl.DividedCost(task.slots, task.quantities, first, setup); cost != want || code != impl.ErrNone {
		t.Fatalf("DividedCost(%d, %v, %v, %d) = %d, %d; want %d", task.slots, task.quantities, first, setup, cost, code, want)
	}
}

// checkNoDivided checks that a gang cannot be divided in a way, or not with a set-up.
func checkNoDivided(t *testing.T, task gangTask, first []int64, setup int64, want int64) {
	t.Helper()
	if cost, code := impl.DividedCost(task.slots, task.quantities, first, setup); cost != 0 || code != want {
		t.Errorf("DividedCost(%d, %v, %v, %d) = %d, %d; want %d", task.slots, task.quantities, first, setup, cost, code, want)
	}
}

// checkBestDivision checks the costs of all lists, and the best division.
func checkBestDivision(t *testing.T, task gangTask, setup int64) {
	t.Helper()
	for _, first := range firstLists(len(task.quantities)) {
		checkDivided(t, task, first, setup, costByHand(task, first, setup, leastRunByGiving))
	}
	lists, want := bestListsByHand(task, setup)
	first, cost, code := impl.BestDivision(task.slots, task.quantities, setup)
	if !slices.Equal(first, bestByHandOf(lists)) || cost != want || code != impl.ErrNone {
		t.Fatalf("BestDivision(%d, %v, %d) = %v, %d, %d; want %v, %d", task.slots, task.quantities, setup, first, cost, code, bestByHandOf(lists), want)
	}
}

// checkNoBestDivision checks that there is no best division.
func checkNoBestDivision(t *testing.T, task gangTask, setup int64, want int64) {
	t.Helper()
	if first, cost, code := impl.BestDivision(task.slots, task.quantities, setup); first != nil || cost != 0 || code != want {
		t.Errorf("BestDivision(%d, %v, %d) = %v, %d, %d; want %d", task.slots, task.quantities, setup, first, cost, code, want)
	}
}

// checkNoGang checks that all functions tell that slots and quantities are no gang, whatever the
// other arguments are.
func checkNoGang(t *testing.T, task gangTask) {
	t.Helper()
	if impl.IsGang(task.slots, task.quantities) {
		t.Errorf("IsGang(%d, %v)", task.slots, task.quantities)
	}
	if run, code := impl.LeastRun(task.slots, task.quantities); run != 0 || code != impl.ErrInvalid {
		t.Errorf("LeastRun(%d, %v) = %d, %d", task.slots, task.quantities, run, code)
	}
	if ups, code := impl.BestUps(task.slots, task.quantities); ups != nil || code != impl.ErrInvalid {
		t.Errorf("BestUps(%d, %v) = %v, %d", task.slots, task.quantities, ups, code)
	}
	n := len(task.quantities)
	for _, ups := range [][]int64{nil, {0}, {1}, {-1}, slices.Repeat([]int64{1}, n), slices.Repeat([]int64{1}, n+1), make([]int64, n), {math.MaxInt64, 1}} {
		checkNoUps(t, task, ups, impl.ErrInvalid)
	}
	for _, run := range []int64{-1, 0, 1, 1000, impl.MaxQuantity, impl.MaxQuantity + 1, math.MaxInt64} {
		checkNoUpsFor(t, task, run, impl.ErrInvalid)
	}
	for _, setup := range []int64{-1, 0, 1, impl.MaxQuantity, impl.MaxQuantity + 1, math.MinInt64} {
		checkNoBestDivision(t, task, setup, impl.ErrInvalid)
		for _, first := range [][]int64{nil, {0}, {0, 1}, {1}, {-1}, firstOrder(n), firstOrder(n + 1), {0, 0}} {
			checkNoDivided(t, task, first, setup, impl.ErrInvalid)
		}
	}
}

func TestIsGang(t *testing.T) {
	for _, slots := range []int64{1, 2, 5, 6, 7, 31, 32} {
		for n := 1; n <= int(min(slots, 6)); n++ {
			for _, quantity := range []int64{1, 2, 33, 999999, 1000000} {
				task := gangTask{slots, slices.Repeat([]int64{quantity}, n)}
				if !impl.IsGang(task.slots, task.quantities) {
					t.Errorf("IsGang(%d, %v) is false", task.slots, task.quantities)
				}
				for i := range task.quantities {
					for _, wrong := range append(outOf(1, impl.MaxQuantity), -1, -quantity) {
						quantities := slices.Clone(task.quantities)
						quantities[i] = wrong
						checkNoGang(t, gangTask{slots, quantities})
					}
				}
			}
		}
	}
}

// TestNoGang checks wrong numbers of slots, no quantity, more of them than slots, and too many.
func TestNoGang(t *testing.T) {
	for _, slots := range append(outOf(1, impl.MaxSlots), -1, -6, 64, 1000000) {
		for _, quantities := range [][]int64{nil, {}, {1}, {0}, {1000000}, {1000001}, {1000, 500, 300}, {1, 1, 1, 1, 1, 1}, {1, 1, 1, 1, 1, 1, 1}} {
			checkNoGang(t, gangTask{slots, quantities})
		}
	}
	for slots := int64(1); slots <= 32; slots++ {
		checkNoGang(t, gangTask{slots, nil})
		checkNoGang(t, gangTask{slots, []int64{}})
		for n := min(slots, 6) + 1; n <= 34; n++ {
			checkNoGang(t, gangTask{slots, slices.Repeat([]int64{5}, int(n))})
		}
	}
	for _, n := range []int{7, 8, 32, 64, 1000} {
		for _, quantity := range []int64{1, 1000000, 0, -1, 1000001, math.MaxInt64} {
			checkNoGang(t, gangTask{32, slices.Repeat([]int64{quantity}, n)})
		}
	}
}

func TestRunFor(t *testing.T) {
	for _, x := range []struct {
		slots           int64
		quantities, ups []int64
		run             int64
		overs           []int64
	}{
		// The greatest quotient is that of the last, of the first and of a middle job, or of several.
		{8, []int64{1000, 500, 300}, []int64{4, 2, 1}, 300, []int64{200, 100, 0}},
		{8, []int64{1000, 500, 300}, []int64{3, 2, 2}, 334, []int64{2, 168, 368}},
		{8, []int64{300, 1000, 500}, []int64{2, 3, 2}, 334, []int64{368, 2, 168}},
		{8, []int64{300, 500, 1000}, []int64{1, 1, 4}, 500, []int64{200, 0, 1000}},
		{8, []int64{500, 1000, 250}, []int64{2, 4, 1}, 250, []int64{0, 0, 0}},
		// A quotient divides evenly, or is a bit more or less than that.
		{4, []int64{7}, []int64{4}, 2, []int64{1}}, {4, []int64{8}, []int64{4}, 2, []int64{0}}, {4, []int64{9}, []int64{4}, 3, []int64{3}},
		{5, []int64{8, 8}, []int64{3, 2}, 4, []int64{4, 0}}, {5, []int64{9, 8}, []int64{3, 2}, 4, []int64{3, 0}}, {5, []int64{10, 5}, []int64{3, 2}, 4, []int64{2, 3}},
		{5, []int64{3, 10}, []int64{2, 3}, 4, []int64{5, 2}}, {5, []int64{8, 9}, []int64{2, 3}, 4, []int64{0, 3}},
		// The least and the greatest numbers.
		{1, []int64{1}, []int64{1}, 1, []int64{0}}, {32, []int64{1}, []int64{1}, 1, []int64{0}}, {32, []int64{1}, []int64{32}, 1, []int64{31}},
		{1, []int64{1000000}, []int64{1}, 1000000, []int64{0}}, {32, []int64{1000000}, []int64{32}, 31250, []int64{0}}, {32, []int64{1000000}, []int64{31}, 32259, []int64{29}},
		{6, []int64{1, 1, 1, 1, 1, 1}, []int64{1, 1, 1, 1, 1, 1}, 1, []int64{0, 0, 0, 0, 0, 0}},
		{32, slices.Repeat([]int64{1000000}, 6), []int64{1, 1, 1, 1, 1, 27}, 1000000, []int64{0, 0, 0, 0, 0, 26000000}},
		{32, []int64{1, 1, 1, 1, 1, 1000000}, []int64{27, 1, 1, 1, 1, 1}, 1000000, []int64{26999999, 999999, 999999, 999999, 999999, 0}},
		// Some slots are left empty.
		{32, []int64{10, 3}, []int64{2, 1}, 5, []int64{0, 2}}, {9, []int64{1000, 500, 300}, []int64{4, 2, 1}, 300, []int64{200, 100, 0}},
	} {
		if run, code := impl.RunFor(x.slots, x.quantities, x.ups); run != x.run || code != impl.ErrNone {
			t.Errorf("RunFor(%d, %v, %v) = %d, %d; want %d", x.slots, x.quantities, x.ups, run, code, x.run)
		}
		if overs, code := impl.OversOf(x.slots, x.quantities, x.ups); !slices.Equal(overs, x.overs) || code != impl.ErrNone {
			t.Errorf("OversOf(%d, %v, %v) = %v, %d; want %v", x.slots, x.quantities, x.ups, overs, code, x.overs)
		}
		checkUps(t, gangTask{x.slots, x.quantities}, x.ups)
	}
}

// TestAllShortUps checks for all short lists whether they are ups, and their runs and overs.
func TestAllShortUps(t *testing.T) {
	for _, task := range []gangTask{
		{1, []int64{1}}, {1, []int64{7}}, {4, []int64{9}}, {2, []int64{3, 8}}, {4, []int64{10, 1}}, {5, []int64{6, 6}}, {3, []int64{4, 5, 6}}, {5, []int64{11, 2, 7}},
		{6, []int64{9, 9, 1}}, {4, []int64{3, 1, 4, 1}}, {6, []int64{2, 7, 1, 8}},
	} {
		for length := range len(task.quantities) + 2 {
			for _, ups := range listsFrom(-1, task.slots+1, length) {
				if areUpsByHand(task, ups) {
					checkUps(t, task, ups)
				} else {
					checkNoUps(t, task, ups, impl.ErrRange)
				}
			}
		}
	}
}

// TestWrongUps checks lists with too few or too many ups, with one that is out of range, that take
// one slot too many, and whose sum is small again after an overflow.
func TestWrongUps(t *testing.T) {
	for n := 1; n <= 6; n++ {
		task := gangTask{32, lengthsFrom(int64(n), n, 1, 1000000)}
		ups := slices.Repeat([]int64{5}, n)
		ups[n-1] += 32 - 5*int64(n)
		checkUps(t, task, ups)
		for _, wrong := range [][]int64{nil, {}, ups[1:], ups[:n-1], append(slices.Clone(ups), 1), append(slices.Clone(ups), 0), make([]int64, n), firstOrder(n), slices.Repeat([]int64{1}, 33)} {
			checkNoUps(t, task, wrong, impl.ErrRange)
		}
		for i := range ups {
			for _, up := range append(outOf(1, 32), ups[i]+1, -1, -ups[i], 32+ups[i]) {
				changed := slices.Clone(ups)
				changed[i] = up
				checkNoUps(t, task, changed, impl.ErrRange)
			}
			fewer := slices.Clone(ups)
			fewer[i]--
			checkUps(t, task, fewer)
		}
	}
	four := gangTask{32, []int64{10, 20, 30, 40}}
	for _, ups := range [][]int64{
		{math.MaxInt64, math.MaxInt64, 1, 1}, {math.MaxInt64, math.MaxInt64, 2, 1}, {1, 1, math.MaxInt64, math.MaxInt64}, {math.MaxInt64, 1, 1, 1}, {1, math.MaxInt64, 1, 1}, {1, 1, 1, math.MaxInt64},
		{1 << 62, 1 << 62, 1 << 62, 1 << 62}, {1<<62 + 1, 1 << 62, 1 << 62, 1 << 62}, {1 << 62, 1 << 62, 1<<62 + 1, 1<<62 + 3}, {1<<32 + 1, 1, 1, 1}, {1 << 32, 1 << 32, 1 << 32, 1 << 32},
		{math.MinInt64, math.MinInt64, 2, 2}, {2, 2, math.MinInt64, math.MinInt64}, {40, -10, 1, 1}, {-1, 10, 10, 10}, {10, 10, 10, -1}, {33, -3, 1, 1}, {8, 8, 8, 9}, {29, 1, 1, 2}, {30, 1, 1, 1}, {1, 1, 1, 30},
	} {
		checkNoUps(t, four, ups, impl.ErrRange)
	}
	checkUps(t, four, []int64{29, 1, 1, 1})
	checkUps(t, four, []int64{1, 1, 1, 29})
	checkUps(t, four, []int64{8, 8, 8, 8})
}

func TestUpsFor(t *testing.T) {
	for _, x := range []struct {
		slots      int64
		quantities []int64
		run        int64
		want       []int64
	}{
		{8, []int64{1000, 500, 300}, 300, []int64{4, 2, 1}}, {8, []int64{1000, 500, 300}, 1000, []int64{1, 1, 1}}, {8, []int64{1000, 500, 300}, 999, []int64{2, 1, 1}}, {8, []int64{1000, 500, 300}, 1000000, []int64{1, 1, 1}},
		// The least ups just fill the slots, and with one sheet less they have no room.
		{8, []int64{1000, 500, 300}, 250, []int64{4, 2, 2}}, {8, []int64{1000, 500, 300}, 249, nil}, {10, []int64{1000, 500, 300}, 249, []int64{5, 3, 2}}, {9, []int64{1000, 500, 300}, 249, nil},
		{3, []int64{7, 8, 9}, 9, []int64{1, 1, 1}}, {3, []int64{7, 8, 9}, 8, nil}, {32, []int64{1000000}, 31250, []int64{32}}, {32, []int64{1000000}, 31249, nil},
		// A run of one sheet, which needs as many slots as there are things.
		{32, []int64{32}, 1, []int64{32}}, {32, []int64{33}, 1, nil}, {31, []int64{32}, 1, nil}, {1, []int64{1}, 1, []int64{1}}, {1, []int64{2}, 1, nil}, {32, []int64{1000000}, 1, nil},
		{32, []int64{27, 1, 1, 1, 1, 1}, 1, []int64{27, 1, 1, 1, 1, 1}}, {32, []int64{28, 1, 1, 1, 1, 1}, 1, nil}, {32, []int64{1, 1, 1, 1, 1, 28}, 1, nil}, {32, slices.Repeat([]int64{1000000}, 6), 1, nil},
		// The greatest run, and one sheet less than that.
		{6, slices.Repeat([]int64{1000000}, 6), 1000000, []int64{1, 1, 1, 1, 1, 1}}, {6, slices.Repeat([]int64{1000000}, 6), 999999, nil}, {11, slices.Repeat([]int64{1000000}, 6), 999999, nil},
		{12, slices.Repeat([]int64{1000000}, 6), 999999, []int64{2, 2, 2, 2, 2, 2}}, {1, []int64{1000000}, 1000000, []int64{1}}, {1, []int64{1000000}, 999999, nil}, {1, []int64{999999}, 999999, []int64{1}}, {32, []int64{1}, 1000000, []int64{1}},
		// One job takes all slots and leaves none for the others, or needs more than there are.
		{4, []int64{8, 1}, 2, nil}, {5, []int64{8, 1}, 2, []int64{4, 1}}, {4, []int64{1, 8}, 2, nil}, {4, []int64{9, 1}, 2, nil}, {4, []int64{100, 1}, 2, nil},
	} {
		task := gangTask{x.slots, x.quantities}
		want := int64(impl.ErrNone)
		if x.want == nil {
			want = impl.ErrNotFound
		}
		if ups, code := impl.UpsFor(x.slots, x.quantities, x.run); !slices.Equal(ups, x.want) || code != want {
			t.Errorf("UpsFor(%d, %v, %d) = %v, %d; want %v", x.slots, x.quantities, x.run, ups, code, x.want)
		}
		checkUpsFor(t, task, x.run)
		for _, run := range append(outOf(1, impl.MaxQuantity), -1, -x.run) {
			checkNoUpsFor(t, task, run, impl.ErrRange)
		}
	}
}

// TestAllShortRuns checks all short runs of small gangs.
func TestAllShortRuns(t *testing.T) {
	for slots := int64(1); slots <= 7; slots++ {
		for n := 1; n <= int(min(slots, 3)); n++ {
			for _, quantities := range listsFrom(1, 9, n) {
				for run := int64(1); run <= 10; run++ {
					checkUpsFor(t, gangTask{slots, quantities}, run)
				}
			}
		}
	}
}

func TestBestUps(t *testing.T) {
	for _, x := range []struct {
		slots      int64
		quantities []int64
		least      int64
		ups        []int64
	}{
		{8, []int64{1000, 500, 300}, 250, []int64{4, 2, 2}},
		{10, []int64{1000, 500, 300}, 200, []int64{5, 3, 2}},
		// As many slots as jobs.
		{1, []int64{1}, 1, []int64{1}}, {1, []int64{1000000}, 1000000, []int64{1}}, {2, []int64{5, 9}, 9, []int64{1, 1}}, {3, []int64{9, 5, 7}, 9, []int64{1, 1, 1}},
		{6, []int64{3, 1, 4, 1, 5, 9}, 9, []int64{1, 1, 1, 1, 1, 1}}, {6, slices.Repeat([]int64{1000000}, 6), 1000000, []int64{1, 1, 1, 1, 1, 1}},
		// One job on all slots, or on fewer when some of them are of no use.
		{32, []int64{1000000}, 31250, []int64{32}}, {32, []int64{64}, 2, []int64{32}}, {32, []int64{63}, 2, []int64{32}}, {32, []int64{32}, 1, []int64{32}}, {32, []int64{1}, 1, []int64{1}}, {32, []int64{31}, 1, []int64{31}},
		{32, []int64{33}, 2, []int64{17}}, {5, []int64{12}, 3, []int64{4}}, {5, []int64{13}, 3, []int64{5}}, {31, []int64{1000000}, 32259, []int64{31}}, {30, []int64{999999}, 33334, []int64{30}},
		// Several jobs that leave slots empty.
		{3, []int64{4, 4}, 4, []int64{1, 1}}, {5, []int64{4, 4}, 2, []int64{2, 2}}, {32, []int64{1, 1, 1, 1, 1, 1}, 1, []int64{1, 1, 1, 1, 1, 1}}, {32, []int64{5, 5, 5, 5, 5, 5}, 1, []int64{5, 5, 5, 5, 5, 5}},
		{32, slices.Repeat([]int64{1000000}, 6), 200000, []int64{5, 5, 5, 5, 5, 5}}, {29, slices.Repeat([]int64{1000000}, 6), 250000, []int64{4, 4, 4, 4, 4, 4}},
		// The job that decides is the first, a middle or the last one.
		{4, []int64{9, 2, 2}, 5, []int64{2, 1, 1}}, {4, []int64{2, 9, 2}, 5, []int64{1, 2, 1}}, {4, []int64{2, 2, 9}, 5, []int64{1, 1, 2}}, {4, []int64{6, 9, 2}, 6, []int64{1, 2, 1}}, {32, []int64{1, 1, 1, 1, 1, 1000000}, 37038, []int64{1, 1, 1, 1, 1, 27}},
	} {
		task := gangTask{x.slots, x.quantities}
		if ups, code := impl.BestUps(x.slots, x.quantities); !slices.Equal(ups, x.ups) || code != impl.ErrNone {
			t.Errorf("BestUps(%d, %v) = %v, %d; want %v", x.slots, x.quantities, ups, code, x.ups)
		}
		checkGang(t, task, x.least)
		if n := leastRunByGiving(task); n != x.least {
			t.Errorf("the gang %d, %v has the least run %d", x.slots, x.quantities, n)
		}
	}
}

// TestAllSmallGangs checks small gangs against a search of all their ups.
func TestAllSmallGangs(t *testing.T) {
	for slots := int64(1); slots <= 7; slots++ {
		for n := 1; n <= int(min(slots, 6)); n++ {
			most := []int64{0, 30, 15, 8, 5, 3, 2}[n]
			for _, quantities := range listsFrom(1, most, n) {
				task := gangTask{slots, quantities}
				least := leastRunByHand(task)
				checkGang(t, task, least)
				if given := leastRunByGiving(task); given != least {
					t.Fatalf("the gang %d, %v has the least run %d or %d", slots, quantities, least, given)
				}
			}
		}
	}
}

// TestNoUpsAreBetter checks that no ups of a greater gang have a smaller run than the best ones.
func TestNoUpsAreBetter(t *testing.T) {
	for seed := range int64(24) {
		n := 2 + int(seed%3)
		task := gangTask{32 - seed/3, lengthsFrom(seed, n, 1, 1000000>>(seed%5*4))}
		checkGang(t, task, leastRunByHand(task))
		least, _ := impl.LeastRun(task.slots, task.quantities)
		for ups := range eachUps(task) {
			if run, code := impl.RunFor(task.slots, task.quantities, ups); run < least || code != impl.ErrNone {
				t.Fatalf("RunFor(%d, %v, %v) = %d, %d; the least run is %d", task.slots, task.quantities, ups, run, code, least)
			}
		}
	}
	for seed := range int64(19) {
		task := gangTask{14 + seed, lengthsFrom(100+seed, 5+int(seed%2), 1, 1000000)}
		checkGang(t, task, leastRunByHand(task))
	}
}

// TestManyGangs checks gangs of all sizes, with slots that are given one after another.
func TestManyGangs(t *testing.T) {
	for slots := int64(1); slots <= 32; slots++ {
		for n := 1; n <= int(min(slots, 6)); n++ {
			for seed := range int64(10) {
				most := []int64{5, 40, 999, 50000, 1000000}[seed%5]
				task := gangTask{slots, lengthsFrom(1000*slots+100*int64(n)+seed, n, 1, most)}
				least := leastRunByGiving(task)
				checkGang(t, task, least)
				for _, run := range []int64{1, 2, least / 2, least + 1, 2 * least, most, 1000000} {
					if run >= 1 && run <= 1000000 {
						checkUpsFor(t, task, run)
					}
				}
			}
		}
	}
}

func TestDividedCost(t *testing.T) {
	for _, x := range []struct {
		slots             int64
		quantities, first []int64
		setup, want       int64
	}{
		// Not divided, and the job 0 alone.
		{4, []int64{1000, 10}, []int64{0, 1}, 20, 354}, {4, []int64{1000, 10}, []int64{0}, 20, 293}, {4, []int64{1000, 10}, []int64{0, 1}, 200, 534}, {4, []int64{1000, 10}, []int64{0}, 200, 653},
		{4, []int64{1000}, []int64{0}, 0, 250}, {4, []int64{1000}, []int64{0}, 7, 257}, {1, []int64{1}, []int64{0}, 0, 1}, {1, []int64{1000000}, []int64{0}, 1000000, 2000000}, {2, []int64{1000000, 1000000}, []int64{0, 1}, 1000000, 2000000},
		// Both forms have all slots.
		{8, []int64{1000, 500, 300}, []int64{0, 1, 2}, 10, 260}, {8, []int64{1000, 500, 300}, []int64{0}, 10, 125 + 100 + 20}, {8, []int64{1000, 500, 300}, []int64{0, 1}, 10, 200 + 38 + 20}, {8, []int64{1000, 500, 300}, []int64{0, 2}, 10, 167 + 63 + 20},
		{1, []int64{5}, []int64{0}, 3, 8}, {2, []int64{5, 8}, []int64{0}, 3, 3 + 4 + 6}, {2, []int64{5, 8}, []int64{0, 1}, 3, 8 + 3}, {32, []int64{32, 32}, []int64{0}, 0, 2},
		// Set-ups of 0 and of the greatest number.
		{4, []int64{4, 5, 5, 4}, []int64{0, 3}, 0, 5}, {4, []int64{4, 5, 5, 4}, []int64{0, 3}, 1000000, 2000005}, {4, []int64{4, 5, 5, 4}, []int64{0, 1, 2, 3}, 1000000, 1000005},
		{6, slices.Repeat([]int64{1000000}, 6), []int64{0}, 1000000, 166667 + 1000000 + 2000000}, {6, slices.Repeat([]int64{1000000}, 6), []int64{0, 2, 4}, 0, 1000000}, {6, slices.Repeat([]int64{1000000}, 6), []int64{0, 1, 2, 3, 4, 5}, 0, 1000000},
	} {
		task := gangTask{x.slots, x.quantities}
		checkDivided(t, task, x.first, x.setup, x.want)
		if cost := costByHand(task, x.first, x.setup, leastRunByHand); cost != x.want {
			t.Errorf("dividing %d, %v by %v with %d costs %d", x.slots, x.quantities, x.first, x.setup, cost)
		}
	}
}

// TestAllShortFirstLists checks for all short lists whether a gang can be divided by them.
func TestAllShortFirstLists(t *testing.T) {
	for n := 1; n <= 4; n++ {
		task := gangTask{7, lengthsFrom(int64(n), n, 1, 500)}
		right := firstLists(n)
		for length := range n + 2 {
			for _, first := range listsFrom(-1, int64(n)+1, length) {
				if slices.ContainsFunc(right, func(list []int64) bool { return slices.Equal(list, first) }) {
					checkDivided(t, task, first, 9, costByHand(task, first, 9, leastRunByHand))
				} else {
					checkNoDivided(t, task, first, 9, impl.ErrRange)
				}
			}
		}
	}
}

// TestWrongFirstLists checks lists that do not begin with 0, are not strictly increasing, or name a
// job that is not there.
func TestWrongFirstLists(t *testing.T) {
	six := gangTask{32, []int64{700, 20, 900, 31, 4, 555}}
	for _, first := range [][]int64{
		nil, {}, {1}, {5}, {6}, {-1}, {1, 2, 3, 4, 5}, {-1, 0}, {-1, 0, 1}, {0, -1}, {0, 0}, {0, 1, 1}, {0, 1, 0}, {0, 2, 1}, {0, 1, 3, 2}, {0, 5, 4}, {0, 6}, {0, 5, 6}, {0, 1, 2, 3, 4, 6}, {0, 7}, {1, 0}, {0, 1, 2, 5, 5},
		firstOrder(7), firstOrder(1000), lastOrder(6), make([]int64, 6), {0, 1 << 32}, {0, 1<<32 + 1}, {1 << 32}, {0, math.MaxInt64}, {0, math.MinInt64}, {math.MinInt64, 0}, {0, 1, 2, 3, 4, 5, math.MinInt64}, {0, 1, 2, 3, 4, 5, 5},
	} {
		for _, setup := range []int64{-1, 0, 12, 1000000, 1000001} {
			checkNoDivided(t, six, first, setup, impl.ErrRange)
		}
	}
	one := gangTask{32, []int64{700}}
	for _, first := range [][]int64{nil, {1}, {0, 1}, {0, 0}, {-1}} {
		checkNoDivided(t, one, first, 0, impl.ErrRange)
	}
	checkDivided(t, one, []int64{0}, 0, 22)
}

// TestWrongSetups checks set-ups that are not in their range, at the limits and far from them.
func TestWrongSetups(t *testing.T) {
	for _, task := range []gangTask{{1, []int64{1}}, {4, []int64{1000, 10}}, {6, slices.Repeat([]int64{1000000}, 6)}, {32, []int64{700, 20, 900, 31, 4, 555}}} {
		for _, setup := range append(outOf(0, impl.MaxQuantity), -1, -1000000) {
			checkNoBestDivision(t, task, setup, impl.ErrRange)
			for _, first := range firstLists(len(task.quantities)) {
				checkNoDivided(t, task, first, setup, impl.ErrRange)
			}
		}
		for _, setup := range []int64{0, 1, 999999, 1000000} {
			checkBestDivision(t, task, setup)
		}
	}
}

func TestBestDivision(t *testing.T) {
	for _, x := range []struct {
		slots      int64
		quantities []int64
		setup      int64
		want       []int64
		cost       int64
	}{
		// It is best not to divide.
		{4, []int64{1000, 10}, 200, []int64{0, 1}, 534}, {1, []int64{1}, 0, []int64{0}, 1}, {32, []int64{1000000}, 1000000, []int64{0}, 1031250}, {6, slices.Repeat([]int64{1000000}, 6), 1000000, []int64{0, 1, 2, 3, 4, 5}, 2000000},
		// It is best to leave out one job: the last, a middle or the second one.
		{4, []int64{1, 1, 13}, 0, []int64{0, 1}, 5}, {4, []int64{1, 7, 1}, 0, []int64{0, 2}, 3}, {4, []int64{1, 1, 13, 1}, 0, []int64{0, 1, 3}, 5}, {4, []int64{1, 7, 1, 1}, 0, []int64{0, 2, 3}, 3}, {4, []int64{1, 1, 1, 4}, 0, []int64{0, 1, 2}, 2},
		{4, []int64{1000, 10}, 20, []int64{0}, 293}, {4, []int64{10, 1000}, 20, []int64{0}, 293},
		// It is best to leave out several: two, three, and all but the job 0.
		{4, []int64{1, 13, 13}, 0, []int64{0}, 8}, {4, []int64{1, 5, 1, 13}, 0, []int64{0, 2}, 6}, {4, []int64{1, 5, 13, 1}, 0, []int64{0, 3}, 6}, {4, []int64{1, 5, 5, 10}, 0, []int64{0}, 6}, {4, []int64{1, 1, 9}, 0, []int64{0, 1}, 4},
		{6, []int64{600000, 1, 1, 1, 1, 1}, 5, []int64{0}, 100011}, {6, []int64{1, 600000, 500000, 400000, 1, 1}, 5, []int64{0, 4, 5}, 300011},
		// The set-up decides, by one: it is as much as what is saved by dividing, or less or more.
		{4, []int64{1000, 10}, 80, []int64{0}, 413}, {4, []int64{1000, 10}, 81, []int64{0, 1}, 415}, {4, []int64{1000, 10}, 82, []int64{0, 1}, 416},
	} {
		task := gangTask{x.slots, x.quantities}
		if first, cost, code := impl.BestDivision(x.slots, x.quantities, x.setup); !slices.Equal(first, x.want) || cost != x.cost || code != impl.ErrNone {
			t.Errorf("BestDivision(%d, %v, %d) = %v, %d, %d; want %v, %d", x.slots, x.quantities, x.setup, first, cost, code, x.want, x.cost)
		}
		checkBestDivision(t, task, x.setup)
	}
}

// TestLongestBestDivision checks gangs that have several divisions of the same least cost.
func TestLongestBestDivision(t *testing.T) {
	for _, x := range []struct {
		slots      int64
		quantities []int64
		setup      int64
		lists      [][]int64
		want       []int64
	}{
		// The lists have different lengths. The longest one is the first, a middle or the last one of them.
		{4, []int64{4, 5, 5, 4}, 0, [][]int64{{0, 1, 2, 3}, {0, 3}}, []int64{0, 1, 2, 3}},
		{4, []int64{4, 1, 1, 10}, 0, [][]int64{{0, 1, 2}, {0, 3}}, []int64{0, 1, 2}},
		{4, []int64{4, 1, 17, 7}, 0, [][]int64{{0, 1}, {0, 1, 3}, {0, 2}}, []int64{0, 1, 3}},
		{4, []int64{4, 3, 5, 10}, 0, [][]int64{{0}, {0, 2, 3}}, []int64{0, 2, 3}},
		{4, []int64{4, 15, 9, 4}, 0, [][]int64{{0, 1}, {0, 2}, {0, 2, 3}}, []int64{0, 2, 3}},
		{4, []int64{4, 11, 1, 1}, 0, [][]int64{{0, 1}, {0, 2, 3}}, []int64{0, 2, 3}},
		{4, []int64{7, 11, 13, 13}, 0, [][]int64{{0, 1}, {0, 1, 2, 3}}, []int64{0, 1, 2, 3}},
		{4, []int64{1000, 10}, 81, [][]int64{{0}, {0, 1}}, []int64{0, 1}},
		// Several longest ones have the same length.
		{4, []int64{1, 11, 17}, 0, [][]int64{{0, 1}, {0, 2}}, []int64{0, 1}},
		{4, []int64{1, 13, 5, 4}, 0, [][]int64{{0, 2}, {0, 3}}, []int64{0, 2}},
		{4, []int64{1, 1, 9, 7}, 0, [][]int64{{0, 1}, {0, 2}, {0, 3}}, []int64{0, 1}},
		{4, []int64{7, 9, 13, 19}, 0, [][]int64{{0, 1, 2}, {0, 1, 3}, {0, 3}}, []int64{0, 1, 2}},
		{4, []int64{7, 11, 17, 7}, 0, [][]int64{{0, 1, 3}, {0, 2, 3}}, []int64{0, 1, 3}},
		{4, []int64{4, 7, 9, 4}, 0, [][]int64{{0, 1, 3}, {0, 2, 3}, {0, 3}}, []int64{0, 1, 3}},
		{4, []int64{7, 11, 5, 16}, 0, [][]int64{{0, 1, 2}, {0, 2, 3}}, []int64{0, 1, 2}},
		{4, []int64{19, 9, 9, 10}, 0, [][]int64{{0, 1, 2}, {0, 1, 3}, {0, 2, 3}}, []int64{0, 1, 2}},
		// The smallest one of them has the greatest last job.
		{7, []int64{16, 23, 3, 1, 17}, 0, [][]int64{{0, 1}, {0, 1, 4}, {0, 2, 3}, {0, 2, 4}, {0, 3, 4}}, []int64{0, 1, 4}},
		{6, []int64{17, 9, 14, 22, 1, 30}, 0, [][]int64{{0, 1, 5}, {0, 2, 4}}, []int64{0, 1, 5}},
		{6, []int64{7, 15, 1, 3, 8, 18}, 0, [][]int64{{0, 1, 4, 5}, {0, 2, 3, 4}}, []int64{0, 1, 4, 5}},
		{6, []int64{8, 2, 7, 5, 5, 4}, 0, [][]int64{{0, 1, 2, 5}, {0, 2, 3}, {0, 2, 3, 4}, {0, 2, 4}}, []int64{0, 1, 2, 5}},
	} {
		task := gangTask{x.slots, x.quantities}
		lists, cost := bestListsByHand(task, x.setup)
		if !slices.EqualFunc(lists, x.lists, slices.Equal[[]int64]) || !slices.Equal(bestByHandOf(lists), x.want) {
			t.Errorf("the gang %d, %v with %d has the best lists %v", x.slots, x.quantities, x.setup, lists)
		}
		if first, n, code := impl.BestDivision(x.slots, x.quantities, x.setup); !slices.Equal(first, x.want) || n != cost || code != impl.ErrNone {
			t.Errorf("BestDivision(%d, %v, %d) = %v, %d, %d; want %v, %d", x.slots, x.quantities, x.setup, first, n, code, x.want, cost)
		}
		checkBestDivision(t, task, x.setup)
	}
}

// TestBestDivisionOfSmallGangs checks small gangs with all small set-ups.
func TestBestDivisionOfSmallGangs(t *testing.T) {
	for slots := int64(1); slots <= 5; slots++ {
		for n := 1; n <= int(min(slots, 4)); n++ {
			most := []int64{0, 12, 9, 7, 4}[n]
			for _, quantities := range listsFrom(1, most, n) {
				for _, setup := range []int64{0, 1, 2, 5} {
					checkBestDivision(t, gangTask{slots, quantities}, setup)
				}
			}
		}
	}
}

// TestBestDivisionOfManyGangs checks gangs of all sizes, some with small quantities, for which many
// divisions cost the same, and some with greater ones.
func TestBestDivisionOfManyGangs(t *testing.T) {
	for seed := range int64(300) {
		n := 1 + int(seed%6)
		slots := int64(n) + seed*7%(33-int64(n))
		most := []int64{3, 20, 400, 1000000}[seed/6%4]
		task := gangTask{slots, lengthsFrom(seed, n, 1, most)}
		for _, setup := range []int64{0, 1, most / 20, most} {
			checkBestDivision(t, task, setup)
		}
	}
	for seed := range int64(500) {
		n := 5 + int(seed%2)
		checkBestDivision(t, gangTask{int64(n) + seed/2%3, lengthsFrom(seed, n, 1, []int64{4, 9, 30}[seed%3])}, 0)
	}
}

// TestSameDivisionEveryTime checks that the best division of a gang is the same one every time, and
// also when several ask for it at the same time.
func TestSameDivisionEveryTime(t *testing.T) {
	for _, task := range []gangTask{{6, []int64{5, 5, 5, 5, 5, 5}}, {9, []int64{7, 9, 5, 7, 4, 3}}, {32, []int64{700, 20, 900, 31, 4, 555}}, {4, []int64{7, 9, 5, 7}}} {
		lists, want := bestListsByHand(task, 0)
		best := bestByHandOf(lists)
		var calls sync.WaitGroup
		for range 8 {
			calls.Go(func() {
				for range 100 {
					if first, cost, code := impl.BestDivision(task.slots, task.quantities, 0); !slices.Equal(first, best) || cost != want || code != impl.ErrNone {
						t.Errorf("BestDivision(%d, %v, 0) = %v, %d, %d; want %v, %d", task.slots, task.quantities, first, cost, code, best, want)
					}
				}
			})
		}
		calls.Wait()
	}
}

// TestGangsKeepTheirArguments checks that no list is changed, nor the capacity behind it, and that
// results share no memory with them or with one another.
func TestGangsKeepTheirArguments(t *testing.T) {
	for n := 1; n <= 6; n++ {
		wantQuantities, wantUps, wantFirst := lengthsFrom(int64(n), n, 1, 900), slices.Repeat([]int64{2}, n), firstOrder(n)
		for name, call := range map[string]func(quantities []int64, ups []int64) ([]int64, int64){
			"OversOf": func(quantities []int64, ups []int64) ([]int64, int64) { return impl.OversOf(13, quantities, ups) },
			"UpsFor":  func(quantities []int64, ups []int64) ([]int64, int64) { return impl.UpsFor(13, quantities, 800) },
			"BestUps": func(quantities []int64, ups []int64) ([]int64, int64) { return impl.BestUps(13, quantities) },
			"BestDivision": func(quantities []int64, ups []int64) ([]int64, int64) {
				first, _, code := impl.BestDivision(13, quantities, 40)
				return first, code
			},
		} {
			quantities, ups, jobs := spareCopy(wantQuantities, 77), spareCopy(wantUps, 77), spareCopy(wantFirst, 77)
			impl.IsGang(13, quantities)
			impl.RunFor(13, quantities, ups)
			impl.LeastRun(13, quantities)
			impl.DividedCost(13, quantities, jobs, 40)
			impl.DividedCost(13, quantities, jobs[:1], 40)
			result, code := call(quantities, ups)
			if !keptSpare(quantities, wantQuantities, 77) || !keptSpare(ups, wantUps, 77) || !keptSpare(jobs, wantFirst, 77) || code != impl.ErrNone {
				t.Fatalf("%s of %v, %v changed them to %v, %v", name, wantQuantities, wantUps, quantities[:n+3], ups[:n+3])
			}
			kept := slices.Clone(result)
			second, _ := call(quantities, ups)
			clear(second[:cap(second)])
			if !keptSpare(quantities, wantQuantities, 77) || !keptSpare(ups, wantUps, 77) {
				t.Errorf("a result of %s shares memory with its arguments", name)
			}
			clear(quantities[:n+3])
			clear(ups[:n+3])
			if !slices.Equal(result, kept) {
				t.Errorf("a result of %s shares memory with its arguments or another result", name)
			}
		}
	}
}
