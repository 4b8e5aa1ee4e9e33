package tests

import (
	"iter"
	"math"
	"slices"
	"testing"

	"loop.example/g00944/impl"
)

// packTask is a roll length and lengths of strips, valid or not.
type packTask struct {
	roll   int64
	strips []int64
}

// cutFrom returns how much is cut from the roll with a number.
func cutFrom(strips []int64, packing []int64, number int64) int64 {
	var sum int64
	for i, strip := range strips {
		if packing[i] == number {
			sum += strip
		}
	}
	return sum
}

// rollsUsed returns how many different rolls a list of numbers has.
func rollsUsed(packing []int64) int64 {
	different := map[int64]bool{}
	for _, number := range packing {
		different[number] = true
	}
	return int64(len(different))
}

// isPackedByHand reports whether a list is a packing of a task: no roll is overfull, and the one
// before each roll has been met before it.
func isPackedByHand(task packTask, packing []int64) bool {
	if len(packing) != len(task.strips) {
		return false
	}
	for i, number := range packing {
		if number < 0 || number > 0 && !slices.Contains(packing[:i], number-1) {
			return false
		}
		if cutFrom(task.strips, packing, number) > task.roll {
			return false
		}
	}
	return true
}

// eachPacking hands out all packings of a task, lexicographically. The list is the same one each
// time.
func eachPacking(task packTask) iter.Seq[[]int64] {
	return func(yield func([]int64) bool) {
		packing := make([]int64, 0, len(task.strips))
		var extend func(rolls int64) bool
		extend = func(rolls int64) bool {
			i := len(packing)
			if i == len(task.strips) {
				return yield(packing)
			}
			for number := range rolls + 1 {
				packing = append(packing, number)
				if cutFrom(task.strips[:i+1], packing, number) <= task.roll && !extend(max(rolls, number+1)) {
					return false
				}
				packing = packing[:i]
			}
			return true
		}
		extend(0)
	}
}

// leastByHand returns the least number of rolls of all packings, found one by one.
func leastByHand(task packTask) int64 {
	least := int64(len(task.strips))
	for packing := range eachPacking(task) {
		least = min(least, rollsUsed(packing))
	}
	return least
}

// leastBySets returns the least number of rolls of a task without a look at each packing: for every
// set of strips, it tries every set of them that is cut from one roll.
func leastBySets(task packTask) int64 {
	sums := make([]int64, 1<<len(task.strips))
	least := make([]int64, len(sums))
	for set := 1; set < len(sums); set++ {
		for i, strip := range task.strips {
			if set>>i&1 == 1 {
				sums[set] += strip
			}
		}
		least[set] = math.MaxInt64
		for one := set; one > 0; one = (one - 1) & set {
			if sums[one] <= task.roll {
				least[set] = min(least[set], 1+least[set&^one])
			}
		}
	}
	return least[len(sums)-1]
}

// firstPackingOn returns the lexicographically smallest packing with a number of rolls.
func firstPackingOn(task packTask, n int64) []int64 {
	for packing := range eachPacking(task) {
		if rollsUsed(packing) == n {
			return slices.Clone(packing)
		}
	}
	return nil
}

// boundByHand returns what RollBound is to return: it takes off whole rolls from all strips
// together as long as something is left.
func boundByHand(task packTask) int64 {
	var sum, rolls, long int64
	for _, strip := range task.strips {
		sum += strip
		if strip > task.roll-strip {
			long++
		}
	}
	for ; sum > 0; sum -= task.roll {
		rolls++
	}
	return max(rolls, long)
}

// laidOnRolls lays strips, given by their indices, one after the other on the first roll that has
// enough left, and returns the indices that each roll gets.
func laidOnRolls(task packTask, indices []int) [][]int {
	var rolls [][]int
next:
	for _, i := range indices {
		for r, on := range rolls {
			left := task.roll
			for _, j := range on {
				left -= task.strips[j]
			}
			if left >= task.strips[i] {
				rolls[r] = append(on, i)
				continue next
			}
		}
		rolls = append(rolls, []int{i})
	}
	return rolls
}

// packingOfRolls returns the packing of which each roll has the strips with some indices.
func packingOfRolls(n int, rolls [][]int) []int64 {
	rolls = slices.Clone(rolls)
	slices.SortFunc(rolls, func(a, b []int) int { return slices.Min(a) - slices.Min(b) })
	packing := make([]int64, n)
	for number, on := range rolls {
		for _, i := range on {
			packing[i] = int64(number)
		}
	}
	return packing
}

// upwardIndices returns the indices of all strips of a task in their order.
func upwardIndices(task packTask) []int {
	indices := make([]int, len(task.strips))
	for i := range indices {
		indices[i] = i
	}
	return indices
}

// indicesByLength returns the indices of all strips of a task from the longest to the shortest one,
// of equal ones in their order: it takes the first one that is longer than all before it or as long,
// again and again.
func indicesByLength(task packTask) []int {
	left, result := upwardIndices(task), []int{}
	for len(left) > 0 {
		longest := 0
		for at, i := range left {
			if task.strips[i] > task.strips[left[longest]] {
				longest = at
			}
		}
		result = append(result, left[longest])
		left = slices.Delete(left, longest, longest+1)
	}
	return result
}

// lengthsFrom returns n lengths from low to high, which a seed tells.
func lengthsFrom(seed int64, n int, low int64, high int64) []int64 {
	list := make([]int64, n)
	for i := range list {
		seed = (seed*1103515245 + 12345) % (1 << 31)
		list[i] = low + seed/64%(high-low+1)
	}
	return list
}

// listsFrom returns all lists of a length with numbers from low to high.
func listsFrom(low int64, high int64, length int) [][]int64 {
	lists := [][]int64{nil}
	for range length {
		var longer [][]int64
		for _, list := range lists {
			for number := low; number <= high; number++ {
				longer = append(longer, append(slices.Clip(list), number))
			}
		}
		lists = longer
	}
	return lists
}

// checkPacked checks a packing that a function has returned, its spares, and that no bound is above
// its rolls.
func checkPacked(t *testing.T, name string, task packTask, got []int64, code int64, want []int64) {
	t.Helper()
	if !slices.Equal(got, want) || code != impl.ErrNone {
		t.Fatalf("%s(%d, %v) = %v, %d; want %v", name, task.roll, task.strips, got, code, want)
	}
	if !impl.IsPacking(task.roll, task.strips, got) || !isPackedByHand(task, got) {
		t.Fatalf("%s(%d, %v) = %v is no packing", name, task.roll, task.strips, got)
	}
	checkSpares(t, task, got)
	if bound := boundByHand(task); rollsUsed(got) < bound {
		t.Fatalf("%s(%d, %v) = %v has fewer rolls than %d", name, task.roll, task.strips, got, bound)
	}
}

// checkSpares checks the spares of a packing.
func checkSpares(t *testing.T, task packTask, packing []int64) {
	t.Helper()
	var want []int64
	for number := range rollsUsed(packing) {
		want = append(want, task.roll-cutFrom(task.strips, packing, number))
	}
	if got, code := impl.SparesOf(task.roll, task.strips, packing); !slices.Equal(got, want) || code != impl.ErrNone {
		t.Fatalf("SparesOf(%d, %v, %v) = %v, %d; want %v", task.roll, task.strips, packing, got, code, want)
	}
}

// checkPackTask checks what all functions say of a task with a least number of rolls.
func checkPackTask(t *testing.T, task packTask, least int64) {
	t.Helper()
	if !impl.IsRollTask(task.roll, task.strips) {
		t.Fatalf("IsRollTask(%d, %v) is false", task.roll, task.strips)
	}
	if n, code := impl.RollBound(task.roll, task.strips); n != boundByHand(task) || code != impl.ErrNone {
		t.Fatalf("RollBound(%d, %v) = %d, %d; want %d", task.roll, task.strips, n, code, boundByHand(task))
	}
	if n, code := impl.LeastRolls(task.roll, task.strips); n != least || code != impl.ErrNone {
		t.Fatalf("LeastRolls(%d, %v) = %d, %d; want %d", task.roll, task.strips, n, code, least)
	}
	got, code := impl.FirstFit(task.roll, task.strips)
	checkPacked(t, "FirstFit", task, got, code, packingOfRolls(len(task.strips), laidOnRolls(task, upwardIndices(task))))
	got, code = impl.LongestFirst(task.roll, task.strips)
	checkPacked(t, "LongestFirst", task, got, code, packingOfRolls(len(task.strips), laidOnRolls(task, indicesByLength(task))))
	got, code = impl.BestPacking(task.roll, task.strips)
	checkPacked(t, "BestPacking", task, got, code, firstPackingOn(task, least))
}

// checkNoPacking checks that a list is no packing of a task.
func checkNoPacking(t *testing.T, task packTask, packing []int64, want int64) {
	t.Helper()
	if impl.IsPacking(task.roll, task.strips, packing) {
		t.Errorf("IsPacking(%d, %v, %v)", task.roll, task.strips, packing)
	}
	if got, code := impl.SparesOf(task.roll, task.strips, packing); got != nil || code != want {
		t.Errorf("SparesOf(%d, %v, %v) = %v, %d; want %d", task.roll, task.strips, packing, got, code, want)
	}
}

// checkNoTask checks that all functions tell that a roll and strips are no task, whatever the
// packing is.
func checkNoTask(t *testing.T, task packTask) {
	t.Helper()
	if impl.IsRollTask(task.roll, task.strips) {
		t.Errorf("IsRollTask(%d, %v)", task.roll, task.strips)
	}
	if n, code := impl.RollBound(task.roll, task.strips); n != 0 || code != impl.ErrInvalid {
		t.Errorf("RollBound(%d, %v) = %d, %d", task.roll, task.strips, n, code)
	}
	if n, code := impl.LeastRolls(task.roll, task.strips); n != 0 || code != impl.ErrInvalid {
		t.Errorf("LeastRolls(%d, %v) = %d, %d", task.roll, task.strips, n, code)
	}
	if list, code := impl.FirstFit(task.roll, task.strips); list != nil || code != impl.ErrInvalid {
		t.Errorf("FirstFit(%d, %v) = %v, %d", task.roll, task.strips, list, code)
	}
	if list, code := impl.LongestFirst(task.roll, task.strips); list != nil || code != impl.ErrInvalid {
		t.Errorf("LongestFirst(%d, %v) = %v, %d", task.roll, task.strips, list, code)
	}
	if list, code := impl.BestPacking(task.roll, task.strips); list != nil || code != impl.ErrInvalid {
		t.Errorf("BestPacking(%d, %v) = %v, %d", task.roll, task.strips, list, code)
	}
	n := len(task.strips)
	for _, packing := range [][]int64{nil, {0}, make([]int64, n), firstOrder(n), firstOrder(n + 1), {1}, {-1}, make([]int64, n+1)} {
		checkNoPacking(t, task, packing, impl.ErrInvalid)
	}
}

func TestIsRollTask(t *testing.T) {
	for _, roll := range []int64{1, 2, 10, 99999, 100000} {
		for _, n := range []int{0, 1, 2, 11, 12} {
			for _, strip := range []int64{1, roll/2 + 1, roll} {
				task := packTask{roll, slices.Repeat([]int64{strip}, n)}
				if !impl.IsRollTask(task.roll, task.strips) {
					t.Errorf("IsRollTask(%d, %v) is false", task.roll, task.strips)
				}
				for i := range task.strips {
					for _, wrong := range append(outOf(1, roll), -roll) {
						strips := slices.Clone(task.strips)
						strips[i] = wrong
						checkNoTask(t, packTask{roll, strips})
					}
				}
			}
		}
	}
}

// TestNoRollTask checks rolls of wrong lengths, and too many strips.
func TestNoRollTask(t *testing.T) {
	for _, roll := range append(outOf(1, impl.MaxRoll), -1, -10, 200000) {
		for _, strips := range [][]int64{nil, {}, {1}, {0}, {roll}, {roll / 2, 1}, {100000}, {100001}, {-1, -1}, firstOrder(13)} {
			checkNoTask(t, packTask{roll, strips})
		}
	}
	for _, n := range []int{13, 14, 24, 64, 1000} {
		for _, roll := range []int64{1, 13, 100000} {
			for _, strip := range []int64{1, roll, 0, -1, roll + 1, math.MaxInt64} {
				checkNoTask(t, packTask{roll, slices.Repeat([]int64{strip}, n)})
			}
		}
	}
}

func TestRollBound(t *testing.T) {
	for _, x := range []struct {
		roll   int64
		strips []int64
		want   int64
	}{
		{1, nil, 0}, {100000, nil, 0}, {1, []int64{1}, 1}, {1, []int64{1, 1, 1}, 3}, {100000, []int64{1}, 1}, {100000, []int64{100000}, 1},
		// The sum of all strips decides: it is divided evenly, or is by one more or less.
		{10, []int64{5, 5, 5, 5}, 2}, {10, []int64{5, 5, 5, 5, 1}, 3}, {10, []int64{5, 5, 5, 4}, 2}, {10, []int64{4, 3, 3}, 1}, {10, []int64{4, 3, 3, 1}, 2},
		{7, []int64{3, 3, 3, 3, 2}, 2}, {7, []int64{3, 3, 3, 3, 3}, 3}, {7, []int64{3, 3, 3, 3, 1}, 2}, {10, []int64{6, 4, 4, 4, 3}, 3}, {10, []int64{4, 4, 4, 4, 4}, 2},
		// The strips that are longer than half of a roll decide.
		{10, []int64{6, 6, 6, 6, 1}, 4}, {10, []int64{6, 6, 6}, 3}, {11, []int64{6, 6, 6}, 3}, {100000, slices.Repeat([]int64{50001}, 12), 12},
		// Exactly half of a roll is not longer than that. An odd roll has no such strip.
		{10, []int64{5, 5}, 1}, {10, []int64{5, 5, 5}, 2}, {11, []int64{5, 5}, 1}, {11, []int64{5, 5, 5}, 2}, {11, []int64{5, 6}, 1}, {11, []int64{6, 6}, 2},
		{10, []int64{5, 6}, 2}, {10, []int64{5, 6, 6}, 2}, {2, []int64{1, 1}, 1}, {2, []int64{1, 1, 1}, 2}, {3, []int64{1, 1, 1}, 1}, {3, []int64{2, 2}, 2},
		{100000, slices.Repeat([]int64{50000}, 12), 6}, {99999, slices.Repeat([]int64{49999}, 12), 6}, {99999, slices.Repeat([]int64{50000}, 12), 12},
		{100000, slices.Repeat([]int64{100000}, 12), 12}, {12, slices.Repeat([]int64{1}, 12), 1}, {11, slices.Repeat([]int64{1}, 12), 2},
	} {
		if n, code := impl.RollBound(x.roll, x.strips); n != x.want || code != impl.ErrNone {
			t.Errorf("RollBound(%d, %v) = %d, %d; want %d", x.roll, x.strips, n, code, x.want)
		}
		task := packTask{x.roll, x.strips}
		checkPackTask(t, task, leastBySets(task))
	}
}

// TestPackings checks the packings and least numbers of rolls of tasks that show what each function
// does.
func TestPackings(t *testing.T) {
	for _, x := range []struct {
		roll                       int64
		strips                     []int64
		firstFit, longestFit, best []int64
	}{
		{10, nil, nil, nil, nil},
		{1, []int64{1}, []int64{0}, []int64{0}, []int64{0}},
		{10, []int64{4, 5, 6, 5, 3, 7}, []int64{0, 0, 1, 2, 1, 3}, []int64{0, 1, 0, 1, 2, 2}, []int64{0, 1, 0, 1, 2, 2}},
		// A later strip goes into an earlier roll, and fills it or leaves a bit of it.
		{10, []int64{6, 7, 4}, []int64{0, 1, 0}, []int64{0, 1, 0}, []int64{0, 1, 0}},
		{10, []int64{6, 7, 3}, []int64{0, 1, 0}, []int64{0, 1, 1}, []int64{0, 1, 0}},
		{10, []int64{6, 7, 8, 2, 3, 2}, []int64{0, 1, 2, 0, 1, 0}, []int64{0, 1, 2, 2, 1, 0}, []int64{0, 1, 2, 0, 1, 0}},
		// A roll is just filled, or one is missing.
		{10, []int64{4, 6, 5, 5}, []int64{0, 0, 1, 1}, []int64{0, 0, 1, 1}, []int64{0, 0, 1, 1}},
		{10, []int64{4, 7, 6}, []int64{0, 1, 0}, []int64{0, 1, 0}, []int64{0, 1, 0}},
		{10, []int64{5, 6, 5}, []int64{0, 1, 0}, []int64{0, 1, 0}, []int64{0, 1, 0}},
		{9, []int64{5, 6, 5}, []int64{0, 1, 2}, []int64{0, 1, 2}, []int64{0, 1, 2}},
		// Of equal strips the first one comes first.
		{10, []int64{4, 4, 4, 7, 6, 6}, []int64{0, 0, 1, 2, 1, 3}, []int64{0, 1, 2, 3, 0, 1}, []int64{0, 0, 1, 2, 1, 3}},
		{10, []int64{3, 7, 3, 7, 3}, []int64{0, 0, 1, 1, 2}, []int64{0, 0, 1, 1, 2}, []int64{0, 0, 1, 1, 2}},
		{12, []int64{2, 8, 2, 9, 2}, []int64{0, 0, 0, 1, 1}, []int64{0, 1, 1, 0, 1}, []int64{0, 0, 0, 1, 1}},
		// The rolls are numbered anew: the longest strip is the last one.
		{10, []int64{1, 2, 8, 9}, []int64{0, 0, 1, 2}, []int64{0, 1, 1, 0}, []int64{0, 1, 1, 0}},
		{10, []int64{7, 8, 9}, []int64{0, 1, 2}, []int64{0, 1, 2}, []int64{0, 1, 2}},
		{10, []int64{3, 2, 1, 7, 8, 9}, []int64{0, 0, 0, 1, 2, 3}, []int64{0, 1, 2, 0, 1, 2}, []int64{0, 1, 2, 0, 1, 2}},
		// All three have different numbers of rolls, or first fit is better than longest first.
		{21, []int64{9, 4, 4, 5, 6, 12, 12, 11}, []int64{0, 0, 0, 1, 1, 2, 3, 4}, []int64{0, 1, 2, 1, 3, 0, 3, 1}, []int64{0, 1, 2, 1, 2, 0, 1, 2}},
		{21, []int64{12, 9, 12, 5, 4, 11, 6, 4}, []int64{0, 0, 1, 1, 1, 2, 2, 2}, []int64{0, 0, 1, 2, 2, 2, 1, 3}, []int64{0, 0, 1, 1, 1, 2, 2, 2}},
		// One roll more than the sum tells is needed.
		{10, []int64{4, 4, 4, 4, 4}, []int64{0, 0, 1, 1, 2}, []int64{0, 0, 1, 1, 2}, []int64{0, 0, 1, 1, 2}},
		{3, []int64{2, 2, 2}, []int64{0, 1, 2}, []int64{0, 1, 2}, []int64{0, 1, 2}},
	} {
		task := packTask{x.roll, x.strips}
		got, code := impl.FirstFit(x.roll, x.strips)
		checkPacked(t, "FirstFit", task, got, code, x.firstFit)
		got, code = impl.LongestFirst(x.roll, x.strips)
		checkPacked(t, "LongestFirst", task, got, code, x.longestFit)
		got, code = impl.BestPacking(x.roll, x.strips)
		checkPacked(t, "BestPacking", task, got, code, x.best)
		checkPackTask(t, task, leastByHand(task))
	}
}

// TestDifferentNumbersOfRolls checks tasks at which first fit, longest first, the best packing and
// the bound have different numbers of rolls, and others at which they have the same.
func TestDifferentNumbersOfRolls(t *testing.T) {
	for _, x := range []struct {
		roll                               int64
		strips                             []int64
		firstFit, longestFit, least, bound int64
	}{
		{21, []int64{9, 4, 4, 5, 6, 12, 12, 11}, 5, 4, 3, 3},
		{23, []int64{10, 5, 2, 12, 7, 3, 11, 14, 15, 13}, 6, 5, 4, 4},
		{10, []int64{3, 2, 4, 3, 4, 2, 6, 6, 6, 2, 5, 6}, 7, 6, 5, 5},
		{21, []int64{12, 9, 12, 5, 4, 11, 6, 4}, 3, 4, 3, 3},
		{10, []int64{1, 2, 8, 9}, 3, 2, 2, 2},
		{10, []int64{4, 4, 4, 4, 4}, 3, 3, 3, 2},
		{7, []int64{4, 4, 3, 3}, 2, 2, 2, 2},
		{100000, []int64{33334, 33334, 33334, 33334, 33334}, 3, 3, 3, 2},
		{5, []int64{3, 3, 3, 3}, 4, 4, 4, 4},
	} {
		firstFit, _ := impl.FirstFit(x.roll, x.strips)
		longestFit, _ := impl.LongestFirst(x.roll, x.strips)
		best, _ := impl.BestPacking(x.roll, x.strips)
		least, _ := impl.LeastRolls(x.roll, x.strips)
		bound, _ := impl.RollBound(x.roll, x.strips)
		got := [...]int64{rollsUsed(firstFit), rollsUsed(longestFit), rollsUsed(best), least, bound}
		if got != [...]int64{x.firstFit, x.longestFit, x.least, x.least, x.bound} {
			t.Errorf("the task %d, %v has %v rolls", x.roll, x.strips, got)
		}
	}
}

// TestSmallestBestPacking checks tasks that have several packings with the least number of rolls.
func TestSmallestBestPacking(t *testing.T) {
	for _, x := range []struct {
		roll   int64
		strips []int64
		count  int
		want   []int64
	}{
		{10, []int64{5, 5, 5, 5}, 3, []int64{0, 0, 1, 1}},
		{10, []int64{6, 4, 6, 4}, 2, []int64{0, 0, 1, 1}},
		{10, []int64{6, 6, 4, 4}, 2, []int64{0, 1, 0, 1}},
		{10, []int64{3, 3, 3, 3}, 7, []int64{0, 0, 0, 1}},
		{10, []int64{2, 3, 8, 7}, 1, []int64{0, 1, 0, 1}},
		{10, []int64{2, 2, 8, 7}, 2, []int64{0, 1, 0, 1}},
		{10, []int64{1, 1, 8, 8}, 4, []int64{0, 0, 0, 1}},
		{12, []int64{1, 9, 3, 6, 5}, 1, []int64{0, 1, 1, 0, 0}},
		{4, []int64{1, 1, 1, 1, 1}, 15, []int64{0, 0, 0, 0, 1}},
		{5, []int64{1, 1, 1, 1, 1}, 1, []int64{0, 0, 0, 0, 0}},
	} {
		task := packTask{x.roll, x.strips}
		var all [][]int64
		for packing := range eachPacking(task) {
			if rollsUsed(packing) == rollsUsed(x.want) {
				all = append(all, slices.Clone(packing))
			}
		}
		if len(all) != x.count || !slices.Equal(slices.MinFunc(all, slices.Compare), x.want) {
			t.Errorf("the task %d, %v has the packings %v", x.roll, x.strips, all)
		}
		got, code := impl.BestPacking(x.roll, x.strips)
		checkPacked(t, "BestPacking", task, got, code, x.want)
		checkPackTask(t, task, leastByHand(task))
	}
}

// TestTwelveStrips checks the greatest tasks: those in which each strip needs a roll of its own, and
// those in which all fit in one or in a few.
func TestTwelveStrips(t *testing.T) {
	for _, x := range []struct {
		roll  int64
		strip int64
		least int64
	}{
		{1, 1, 12}, {2, 2, 12}, {3, 2, 12}, {100000, 100000, 12}, {100000, 50001, 12}, {99999, 50000, 12},
		{12, 1, 1}, {100000, 1, 1}, {100000, 8333, 1}, {99996, 8333, 1}, {99995, 8333, 2}, {11, 1, 2}, {6, 1, 2}, {100000, 50000, 6}, {100000, 33334, 6}, {100000, 33333, 4},
	} {
		task := packTask{x.roll, slices.Repeat([]int64{x.strip}, 12)}
		checkPackTask(t, task, x.least)
		got, code := impl.BestPacking(task.roll, task.strips)
		switch x.least {
		case 1:
			checkPacked(t, "BestPacking", task, got, code, make([]int64, 12))
		case 12:
			checkPacked(t, "BestPacking", task, got, code, firstOrder(12))
		}
	}
	mixed := packTask{100000, []int64{50001, 99999, 60000, 77777, 50002, 88888, 50003, 66666, 99998, 50004, 100000, 51000}}
	checkPackTask(t, mixed, 12)
	powers := packTask{4095, []int64{1, 2, 4, 8, 16, 32, 64, 128, 256, 512, 1024, 2048}}
	checkPackTask(t, powers, 1)
	powers.roll--
	checkPackTask(t, powers, 2)
}

// TestAllSmallTasks checks all tasks with short rolls and few strips, and the guarantee on each of
// their packings.
func TestAllSmallTasks(t *testing.T) {
	for roll := int64(1); roll <= 6; roll++ {
		for n := range 6 {
			for _, strips := range listsFrom(1, roll, n) {
				task := packTask{roll, strips}
				checkPackTask(t, task, leastByHand(task))
				if best := leastBySets(task); best != leastByHand(task) {
					t.Fatalf("the task %d, %v has %d or %d rolls", roll, strips, best, leastByHand(task))
				}
			}
		}
	}
}

// TestNoPackingIsBetter checks that no packing of a task has fewer rolls than the bound or the best
// packing, and none with as few is smaller than that.
func TestNoPackingIsBetter(t *testing.T) {
	for seed := range int64(60) {
		task := packTask{30 + seed, lengthsFrom(seed, 8, 1+seed/4, 15+seed/2)}
		bound, _ := impl.RollBound(task.roll, task.strips)
		least, _ := impl.LeastRolls(task.roll, task.strips)
		best, _ := impl.BestPacking(task.roll, task.strips)
		found := false
		for packing := range eachPacking(task) {
			n := rollsUsed(packing)
			if n < bound || n < least || n == least && slices.Compare(packing, best) < 0 {
				t.Fatalf("the packing %v of %d, %v is better than %v, %d, %d", packing, task.roll, task.strips, best, least, bound)
			}
			found = found || n == least && slices.Equal(packing, best)
			if !impl.IsPacking(task.roll, task.strips, packing) {
				t.Fatalf("IsPacking(%d, %v, %v) is false", task.roll, task.strips, packing)
			}
			checkSpares(t, task, packing)
		}
		if !found {
			t.Fatalf("%v is no packing of %d, %v with %d rolls", best, task.roll, task.strips, least)
		}
	}
}

// TestManyStrips checks tasks with up to twelve strips, with the sums found by sets of strips.
func TestManyStrips(t *testing.T) {
	for seed := range int64(120) {
		n := 9 + int(seed%4)
		for _, x := range []struct{ roll, low, high int64 }{{100000, 25000, 60000}, {100000, 15001, 49999}, {97, 20, 60}, {40, 9, 23}, {31, 8, 15}} {
			task := packTask{x.roll, lengthsFrom(seed*7+x.low, n, x.low, x.high)}
			checkPackTask(t, task, leastBySets(task))
		}
	}
}

// TestTightTasks checks tasks in which only few packings or none reach the bound, so that the search
// has to try the most.
func TestTightTasks(t *testing.T) {
	for _, task := range []packTask{
		{15225, []int64{3420, 3953, 3142, 3499, 2731, 3497, 3388, 3425, 2707, 6939, 7660, 13582}},
		{22676, []int64{2959, 6238, 5484, 6744, 6440, 5888, 6280, 6315, 6283, 5610, 5729, 19315}},
		{69008, []int64{1, 48, 2363, 481, 1696, 5960, 35762, 1773, 34021, 49956, 37503, 47582}},
		{24337, []int64{12052, 6700, 9040, 9068, 1918, 5314, 9276, 12452, 8644, 7304, 7816, 7764}},
		{29887, []int64{3258, 4929, 8846, 8364, 6970, 6776, 7444, 13366, 11980, 1608, 5888, 10230}},
		{100000, []int64{33333, 33333, 33334, 20000, 30000, 50000, 49999, 50001, 1, 99998, 1, 100000}},
	} {
		checkPackTask(t, task, leastBySets(task))
	}
}

// TestAllShortLists checks for all short lists whether they are packings, and their spares.
func TestAllShortLists(t *testing.T) {
	for _, task := range []packTask{
		{1, nil}, {10, nil}, {1, []int64{1}}, {5, []int64{3}}, {1, []int64{1, 1}}, {2, []int64{1, 1}}, {10, []int64{4, 6}}, {10, []int64{5, 6}}, {10, []int64{4, 5, 6}},
		{9, []int64{4, 5, 6}}, {15, []int64{4, 5, 6}}, {14, []int64{4, 5, 6}}, {3, []int64{1, 1, 1}}, {10, []int64{1, 5, 5, 10}}, {100000, []int64{50000, 50000, 1, 99999}},
	} {
		for length := range len(task.strips) + 2 {
			for _, packing := range listsFrom(-2, 5, length) {
				if !isPackedByHand(task, packing) {
					checkNoPacking(t, task, packing, impl.ErrRange)
					continue
				}
				if !impl.IsPacking(task.roll, task.strips, packing) {
					t.Errorf("IsPacking(%d, %v, %v) is false", task.roll, task.strips, packing)
				}
				checkSpares(t, task, packing)
			}
		}
	}
}

// TestWrongPackings checks packings of twelve strips of which one number has been changed, and such
// with too few and too many.
func TestWrongPackings(t *testing.T) {
	task := packTask{10, []int64{4, 5, 6, 5, 3, 7, 2, 8, 1, 9, 10, 10}}
	packing := []int64{0, 1, 0, 1, 2, 2, 3, 3, 4, 4, 5, 6}
	checkSpares(t, task, packing)
	for i := range packing {
		for _, number := range append(outOf(0, 11), 0, 1, 2, 3, 4, 5, 6, 7, 8, 9, 10, 11) {
			changed := slices.Clone(packing)
			changed[i] = number
			if !isPackedByHand(task, changed) {
				checkNoPacking(t, task, changed, impl.ErrRange)
			} else if !impl.IsPacking(task.roll, task.strips, changed) {
				t.Errorf("IsPacking(%d, %v, %v) is false", task.roll, task.strips, changed)
			}
		}
		checkNoPacking(t, task, packing[:i], impl.ErrRange)
		checkNoPacking(t, task, packing[i+1:], impl.ErrRange)
	}
	for _, more := range [][]int64{{0}, {6}, {7}, {7, 8}, {-1}, make([]int64, 1000)} {
		checkNoPacking(t, task, slices.Concat(packing, more), impl.ErrRange)
	}
	for _, wrong := range [][]int64{nil, {}, {0}, make([]int64, 12), firstOrder(11), firstOrder(13), lastOrder(12)} {
		checkNoPacking(t, task, wrong, impl.ErrRange)
	}
	checkSpares(t, task, firstOrder(12))
}

func TestSparesOf(t *testing.T) {
	for _, x := range []struct {
		roll            int64
		strips, packing []int64
		want            []int64
	}{
		{10, []int64{4, 5, 6, 5, 3, 7}, []int64{0, 0, 1, 2, 1, 3}, []int64{1, 1, 5, 3}},
		{10, nil, nil, nil},
		{10, []int64{1, 10, 9}, []int64{0, 1, 2}, []int64{9, 0, 1}},
		{10, []int64{1, 10, 9}, []int64{0, 1, 0}, []int64{0, 0}},
		{100000, []int64{1, 100000, 99999}, []int64{0, 1, 2}, []int64{99999, 0, 1}},
		{1, []int64{1, 1}, []int64{0, 1}, []int64{0, 0}},
		{100000, slices.Repeat([]int64{1}, 12), make([]int64, 12), []int64{99988}},
		{12, slices.Repeat([]int64{1}, 12), make([]int64, 12), []int64{0}},
		{100, slices.Repeat([]int64{1}, 12), firstOrder(12), slices.Repeat([]int64{99}, 12)},
		{100, slices.Repeat([]int64{100}, 12), firstOrder(12), make([]int64, 12)},
	} {
		if got, code := impl.SparesOf(x.roll, x.strips, x.packing); !slices.Equal(got, x.want) || code != impl.ErrNone {
			t.Errorf("SparesOf(%d, %v, %v) = %v, %d; want %v", x.roll, x.strips, x.packing, got, code, x.want)
		}
	}
}

// TestPackingsKeepTheirArguments checks that no list is changed, nor the capacity behind it, and
// that results share no memory with them or with one another.
func TestPackingsKeepTheirArguments(t *testing.T) {
	for _, n := range []int{1, 2, 6, 12} {
		wantStrips, wantPacking := lengthsFrom(int64(n), n, 1, 40), firstOrder(n)
		for name, call := range map[string]func(strips []int64, packing []int64) ([]int64, int64){
			"FirstFit":     func(strips []int64, packing []int64) ([]int64, int64) { return impl.FirstFit(40, strips) },
			"LongestFirst": func(strips []int64, packing []int64) ([]int64, int64) { return impl.LongestFirst(40, strips) },
			"BestPacking":  func(strips []int64, packing []int64) ([]int64, int64) { return impl.BestPacking(40, strips) },
			"SparesOf":     func(strips []int64, packing []int64) ([]int64, int64) { return impl.SparesOf(40, strips, packing) },
		} {
			strips, packing := spareCopy(wantStrips, 77), spareCopy(wantPacking, 77)
			impl.IsRollTask(40, strips)
			impl.IsPacking(40, strips, packing)
			impl.RollBound(40, strips)
			impl.LeastRolls(40, strips)
			first, code := call(strips, packing)
			if !keptSpare(strips, wantStrips, 77) || !keptSpare(packing, wantPacking, 77) || code != impl.ErrNone {
				t.Fatalf("%s of %v, %v changed them to %v, %v", name, wantStrips, wantPacking, strips[:n+3], packing[:n+3])
			}
			kept := slices.Clone(first)
			second, _ := call(strips, packing)
			clear(second[:cap(second)])
			if !keptSpare(strips, wantStrips, 77) || !keptSpare(packing, wantPacking, 77) {
				t.Errorf("a result of %s shares memory with its arguments", name)
			}
			clear(strips[:n+3])
			clear(packing[:n+3])
			if !slices.Equal(first, kept) {
				t.Errorf("a result of %s shares memory with its arguments or another result", name)
			}
		}
	}
}
