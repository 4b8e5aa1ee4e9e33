package tests

import (
	"math"
	"slices"
	"testing"

	"loop.example/g00944/impl"
)

// allUnits returns all units, smaller ones first.
func allUnits() []int64 {
	return []int64{4, 8, 16, 32, 64, 128}
}

// notUnits returns numbers that are no units, among them those beside the units and their opposites.
func notUnits() []int64 {
	numbers := []int64{
		0, 1, 2, -1, -2, 6, 10, 12, 20, 24, 36, 40, 48, 60, 68, 96, 100, 120, 124, 132, 160, 192, 256, 512, 1024, 4096, 8192,
		1 << 31, 1 << 32, 1<<32 + 4, 1<<32 + 128, 1 << 62, 1<<62 + 16, impl.MaxNumber, math.MaxInt64, math.MinInt64, math.MinInt64 + 64,
	}
	for _, unit := range allUnits() {
		numbers = append(numbers, unit-1, unit+1, -unit)
	}
	return numbers
}

// notPageNumbers returns numbers that are none of pages of a book.
func notPageNumbers() []int64 {
	return []int64{
		0, -1, -4, -impl.MaxPages, impl.MaxPages + 1, impl.MaxPages + 128, 2 * impl.MaxPages, impl.MaxNumber, impl.MaxNumber + 1,
		1 << 32, 1<<32 + 1, -1 << 32, 1 << 62, 1<<62 + 4, math.MaxInt64, math.MinInt64, math.MinInt64 + 1,
	}
}

// somePageNumbers returns numbers of pages: small ones, those beside the multiples of the units,
// and those beside the greatest one.
func somePageNumbers() []int64 {
	numbers := countedMarks(70)
	for _, near := range []int64{96, 127, 128, 255, 256, 257, 384, 1000, 2048, 4094} {
		numbers = append(numbers, near-1, near, near+1, near+2)
	}
	return numbers
}

// laidSignatures lays the pages of a gathered book into signatures, one behind the other, with 0
// for blank ones.
func laidSignatures(pages int64, unit int64) [][]int64 {
	var signatures [][]int64
	for page := int64(1); page <= pages; page++ {
		if (page-1)%unit == 0 {
			signatures = append(signatures, nil)
		}
		last := len(signatures) - 1
		signatures[last] = append(signatures[last], page)
	}
	last := len(signatures) - 1
	for int64(len(signatures[last])) < unit {
		signatures[last] = append(signatures[last], 0)
	}
	return signatures
}

// gatheredByHand puts signatures together in an order.
func gatheredByHand(signatures [][]int64, order []int64) []int64 {
	var pages []int64
	for _, i := range order {
		pages = append(pages, signatures[i]...)
	}
	return pages
}

// unitLists returns all strictly increasing lists of at least one unit.
func unitLists() [][]int64 {
	lists := [][]int64{nil}
	for _, unit := range allUnits() {
		for _, list := range lists {
			lists = append(lists, append(slices.Clone(list), unit))
		}
	}
	return lists[1:]
}

// notUnitLists returns lists that are empty, not strictly increasing, or hold a number that is no
// unit.
func notUnitLists() [][]int64 {
	lists := [][]int64{
		nil, {}, {4, 4}, {128, 128}, {8, 4}, {128, 64}, {4, 8, 8}, {4, 4, 8}, {4, 16, 8}, {16, 4, 8}, {8, 16, 4}, {4, 8, 16, 32, 64, 128, 128},
		{4, 8, 16, 32, 128, 64}, {128, 64, 32, 16, 8, 4}, {4, 8, 16, 32, 64, 128, 256}, {2, 4, 8}, {0, 4}, {1, 4, 8}, {-4, 4}, {math.MinInt64, 4},
		{math.MaxInt64, 4}, {4, math.MinInt64, 8}, make([]int64, 6), make([]int64, 1000), slices.Repeat([]int64{4}, 1000), slices.Repeat(allUnits(), 50),
	}
	for _, wrong := range notUnits() {
		lists = append(lists, []int64{wrong}, []int64{4, wrong}, []int64{wrong, 128}, []int64{4, wrong, 128}, append(allUnits(), wrong))
	}
	return lists
}

// bestLists returns the lists with the fewest blank pages and of these the fewest signatures, of
// all lists of numbers of signatures that could be needed: it tries them all, in their
// lexicographic order.
func bestLists(pages int64, units []int64) [][]int64 {
	var best [][]int64
	var bestTotal, bestCount int64
	var extend func(begun []int64, total int64, count int64)
	extend = func(begun []int64, total int64, count int64) {
		if len(begun) < len(units) {
			unit := units[len(begun)]
			for more := range (pages+unit-1)/unit + 1 {
				extend(append(slices.Clone(begun), more), total+more*unit, count+more)
			}
			return
		}
		if total < pages {
			return
		}
		better := len(best) == 0 || total < bestTotal || total == bestTotal && count < bestCount
		if better {
			best, bestTotal, bestCount = nil, total, count
		}
		if total == bestTotal && count == bestCount {
			best = append(best, begun)
		}
	}
	extend(nil, 0, 0)
	return best
}

// nestedByHand numbers the pages of a nested book while its leaves are turned one after the other:
// first those at the left of the innermost fold, from the outermost sheet on, then the others, from
// the innermost one on. It returns the four pages of all sheets.
func nestedByHand(n int64) [][4]int64 {
	const outerLeft, outerRight, innerLeft, innerRight = 0, 1, 2, 3
	sheets := make([][4]int64, n)
	page := int64(0)
	next := func() int64 { page++; return page }
	for k := range sheets {
		sheets[k][outerRight] = next()
		sheets[k][innerLeft] = next()
	}
	for k := range slices.Backward(sheets) {
		sheets[k][innerRight] = next()
		sheets[k][outerLeft] = next()
	}
	return sheets
}

// notSheetNumbers returns numbers that are none of sheets of a nested book, among them such that
// four times of them is the number of pages of one when it overflows.
func notSheetNumbers() []int64 {
	return []int64{
		0, -1, -2, -64, impl.MaxNest + 1, impl.MaxNest + 2, 100, 128, impl.MaxNumber, 1 << 32, 1<<32 + 1, -1 << 32,
		1 << 62, 1<<62 + 1, 1<<62 + 3, -1 << 62, -1<<62 + 5, 1<<61 + 2, math.MaxInt64, math.MinInt64, math.MinInt64 + 1,
	}
}

func TestIsUnit(t *testing.T) {
	for _, unit := range allUnits() {
		if !impl.IsUnit(unit) {
			t.Errorf("IsUnit(%d) = false", unit)
		}
	}
	for _, n := range notUnits() {
		if impl.IsUnit(n) {
			t.Errorf("IsUnit(%d) = true", n)
		}
	}
	for n := int64(-1000); n <= 10000; n++ {
		if got, want := impl.IsUnit(n), slices.Contains(allUnits(), n); got != want {
			t.Errorf("IsUnit(%d) = %t", n, got)
		}
	}
	if impl.MaxPages != 4096 || impl.MaxUnit != 128 || impl.MaxNest != 64 {
		t.Errorf("the limits are %d, %d and %d", impl.MaxPages, impl.MaxUnit, impl.MaxNest)
	}
}

func TestSignatureCount(t *testing.T) {
	for _, c := range []struct{ pages, unit, want int64 }{
		{1, 4, 1}, {1, 128, 1}, {3, 4, 1}, {4, 4, 1}, {5, 4, 2}, {8, 4, 2}, {15, 16, 1}, {16, 16, 1}, {17, 16, 2}, {33, 16, 3},
		{127, 128, 1}, {128, 128, 1}, {129, 128, 2}, {1000, 64, 16}, {4095, 4, 1024}, {4096, 4, 1024}, {4093, 4, 1024}, {4092, 4, 1023},
		{4096, 8, 512}, {4096, 16, 256}, {4096, 32, 128}, {4096, 64, 64}, {4096, 128, 32}, {3969, 128, 32}, {3968, 128, 31},
	} {
		if got, code := impl.SignatureCount(c.pages, c.unit); got != c.want || code != impl.ErrNone {
			t.Errorf("SignatureCount(%d, %d) = %d, %d; want %d", c.pages, c.unit, got, code, c.want)
		}
	}
}

// TestSignatureOf checks with every page of books that it is in one signature, that which has it
// when they are laid by hand, and that the blank pages behind the last one are in none.
func TestSignatureOf(t *testing.T) {
	for _, pages := range somePageNumbers() {
		for _, unit := range allUnits() {
			signatures := laidSignatures(pages, unit)
			if got, code := impl.SignatureCount(pages, unit); got != int64(len(signatures)) || code != impl.ErrNone {
				t.Errorf("SignatureCount(%d, %d) = %d, %d; want %d", pages, unit, got, code, len(signatures))
			}
			for i, signature := range signatures {
				for k, page := range signature {
					index, number, code := impl.SignatureOf(pages, unit, page)
					if page == 0 {
						blank := int64(i)*unit + int64(k) + 1
						checkNoSignature(t, pages, unit, blank)
						continue
					}
					if index != int64(i) || number != int64(k)+1 || code != impl.ErrNone {
						t.Errorf("SignatureOf(%d, %d, %d) = %d, %d, %d; want %d, %d", pages, unit, page, index, number, code, i, k+1)
					}
				}
			}
			for _, page := range []int64{0, -1, -pages, pages + 1, pages + unit, pages + 4096, pages + 1<<32, 1<<32 + 1, math.MaxInt64, math.MinInt64, math.MinInt64 + 1} {
				checkNoSignature(t, pages, unit, page)
			}
		}
	}
}

// checkNoSignature checks that SignatureOf reports an error for a page.
func checkNoSignature(t *testing.T, pages int64, unit int64, page int64) {
	t.Helper()
	if index, number, code := impl.SignatureOf(pages, unit, page); index != 0 || number != 0 || code != impl.ErrRange {
		t.Errorf("SignatureOf(%d, %d, %d) = %d, %d, %d", pages, unit, page, index, number, code)
	}
}

func TestGatherPages(t *testing.T) {
	for _, c := range []struct {
		pages, unit int64
		order, want []int64
	}{
		{1, 4, []int64{0}, []int64{1, 0, 0, 0}},
		{4, 4, []int64{0}, []int64{1, 2, 3, 4}},
		{5, 4, []int64{0, 1}, []int64{1, 2, 3, 4, 5, 0, 0, 0}},
		{6, 4, []int64{1, 0}, []int64{5, 6, 0, 0, 1, 2, 3, 4}},
		{12, 4, []int64{2, 0, 1}, []int64{9, 10, 11, 12, 1, 2, 3, 4, 5, 6, 7, 8}},
		{11, 4, []int64{1, 2, 0}, []int64{5, 6, 7, 8, 9, 10, 11, 0, 1, 2, 3, 4}},
		{3, 8, []int64{0}, []int64{1, 2, 3, 0, 0, 0, 0, 0}},
		{9, 8, []int64{1, 0}, []int64{9, 0, 0, 0, 0, 0, 0, 0, 1, 2, 3, 4, 5, 6, 7, 8}},
	} {
		if got, code := impl.GatherPages(c.pages, c.unit, c.order); !slices.Equal(got, c.want) || code != impl.ErrNone {
			t.Errorf("GatherPages(%d, %d, %v) = %v, %d; want %v", c.pages, c.unit, c.order, got, code, c.want)
		}
	}
	for _, unit := range allUnits() {
		for count := range int64(5) {
			for _, pages := range []int64{count*unit + 1, count*unit + 2, count*unit + unit - 1, (count + 1) * unit} {
				for _, order := range allOrders(int(count) + 1) {
					checkGathered(t, pages, unit, order)
				}
			}
		}
	}
}

// TestGatherManySignatures goes up to the longest orders and the greatest number of pages.
func TestGatherManySignatures(t *testing.T) {
	for _, c := range []struct{ pages, unit int64 }{
		{32, 4}, {60, 4}, {127, 8}, {249, 4}, {252, 4}, {253, 4}, {254, 4}, {255, 4}, {256, 4}, {505, 8}, {512, 8}, {1009, 16}, {1024, 16},
		{2017, 32}, {2048, 32}, {4033, 64}, {4095, 64}, {4096, 64}, {3968, 128}, {3969, 128}, {4095, 128}, {4096, 128},
	} {
		count := len(laidSignatures(c.pages, c.unit))
		for _, order := range [][]int64{firstOrder(count), lastOrder(count), stepOrder(count, count-1), stepOrder(count, 1)} {
			checkGathered(t, c.pages, c.unit, order)
		}
	}
	checkGathered(t, 256, 4, stepOrder(64, 27))
	checkGathered(t, 4096, 64, stepOrder(64, 13))
	checkGathered(t, 4096, 128, stepOrder(32, 7))
}

// checkGathered compares what GatherPages returns with signatures that are put together by hand.
func checkGathered(t *testing.T, pages int64, unit int64, order []int64) {
	t.Helper()
	want := gatheredByHand(laidSignatures(pages, unit), order)
	if got, code := impl.GatherPages(pages, unit, order); !slices.Equal(got, want) || code != impl.ErrNone {
		t.Errorf("GatherPages(%d, %d, %v) = %v, %d; want %v", pages, unit, order, got, code, want)
	}
}

// TestGatherPagesInNoOrder checks lists that are no orders, and orders of other numbers of things.
func TestGatherPagesInNoOrder(t *testing.T) {
	for _, c := range []struct{ pages, unit int64 }{
		{1, 4}, {4, 4}, {5, 4}, {8, 4}, {9, 4}, {12, 4}, {16, 8}, {24, 8}, {128, 128}, {256, 128}, {252, 4}, {253, 4}, {256, 4}, {4096, 128}, {4096, 64},
	} {
		for _, list := range notOrders() {
			checkNotGathered(t, c.pages, c.unit, list)
		}
		count := len(laidSignatures(c.pages, c.unit))
		for n := range impl.MaxOrder + 3 {
			if n != count {
				checkNotGathered(t, c.pages, c.unit, firstOrder(n))
				checkNotGathered(t, c.pages, c.unit, lastOrder(n))
			}
		}
		checkNotGathered(t, c.pages, c.unit, nil)
		for _, wrong := range []int64{-1, int64(count), 1 << 32, math.MinInt64, math.MaxInt64} {
			list := firstOrder(count)
			list[count-1] = wrong
			checkNotGathered(t, c.pages, c.unit, list)
		}
		if count > 1 {
			list := firstOrder(count)
			list[0] = 1
			checkNotGathered(t, c.pages, c.unit, list)
		}
	}
}

// TestGatherTooManySignatures checks books with more signatures than an order can have elements:
// a list of that many numbers is no order, and an order does not have as many.
func TestGatherTooManySignatures(t *testing.T) {
	for _, c := range []struct{ pages, unit int64 }{
		{257, 4}, {260, 4}, {513, 8}, {520, 8}, {1025, 16}, {2049, 32}, {2080, 32}, {4096, 32}, {4096, 16}, {4096, 8}, {4093, 4}, {4096, 4},
	} {
		count := len(laidSignatures(c.pages, c.unit))
		for _, list := range [][]int64{firstOrder(count), lastOrder(count), firstOrder(impl.MaxOrder), lastOrder(impl.MaxOrder), {0}, {}, nil} {
			checkNotGathered(t, c.pages, c.unit, list)
		}
	}
}

// checkNotGathered checks that GatherPages reports an error.
func checkNotGathered(t *testing.T, pages int64, unit int64, order []int64) {
	t.Helper()
	if got, code := impl.GatherPages(pages, unit, order); len(got) != 0 || code != impl.ErrRange {
		t.Errorf("GatherPages(%d, %d, %v) = %v, %d", pages, unit, order, got, code)
	}
}

func TestBestUnits(t *testing.T) {
	for _, c := range []struct {
		pages int64
		units []int64
		want  []int64
	}{
		{1, []int64{4}, []int64{1}},
		{1, []int64{128}, []int64{1}},
		{1, []int64{4, 128}, []int64{1, 0}},
		{7, []int64{32}, []int64{1}},
		{8, []int64{4, 8}, []int64{0, 1}},
		{5, []int64{4, 8}, []int64{0, 1}},
		{12, []int64{4, 8}, []int64{1, 1}},
		{24, []int64{4, 8, 32}, []int64{0, 3, 0}},
		{50, []int64{4, 16, 32}, []int64{1, 1, 1}},
		{50, []int64{8, 32}, []int64{3, 1}},
		{300, []int64{4, 128}, []int64{11, 2}},
		// One signature would do, but with more blank pages.
		{50, []int64{4, 64}, []int64{13, 0}},
		{124, []int64{4, 128}, []int64{31, 0}},
		{125, []int64{4, 128}, []int64{0, 1}},
		{120, []int64{8, 128}, []int64{15, 0}},
		{121, []int64{8, 128}, []int64{0, 1}},
		{30, []int64{4, 16, 128}, []int64{0, 2, 0}},
		{28, []int64{4, 16, 128}, []int64{3, 1, 0}},
		{252, []int64{4, 8, 16, 32, 64, 128}, []int64{1, 1, 1, 1, 1, 1}},
		{253, []int64{4, 8, 16, 32, 64, 128}, []int64{0, 0, 0, 0, 0, 2}},
		{4096, []int64{4}, []int64{1024}},
		{4095, []int64{4, 8, 16, 32, 64, 128}, []int64{0, 0, 0, 0, 0, 32}},
		{4092, []int64{4, 8, 16, 32, 64, 128}, []int64{1, 1, 1, 1, 1, 31}},
		{4092, []int64{4, 128}, []int64{31, 31}},
		{4096, []int64{4, 64}, []int64{0, 64}},
		{4000, []int64{128}, []int64{32}},
	} {
		if got, code := impl.BestUnits(c.pages, c.units); !slices.Equal(got, c.want) || code != impl.ErrNone {
			t.Errorf("BestUnits(%d, %v) = %v, %d; want %v", c.pages, c.units, got, code, c.want)
		}
	}
}

// TestBestUnitsOfAllLists compares with the first of the best of all lists that are possible. There
// is only one each time: units divide one another, so that the lexicographic order has nothing left
// to decide.
func TestBestUnitsOfAllLists(t *testing.T) {
	if len(unitLists()) != 63 {
		t.Fatalf("there are %d lists of units", len(unitLists()))
	}
	for _, units := range unitLists() {
		for pages := int64(1); pages <= 70; pages++ {
			want := bestLists(pages, units)
			if len(want) != 1 {
				t.Errorf("%v are equally good for %d pages of %v", want, pages, units)
			}
			if got, code := impl.BestUnits(pages, units); !slices.Equal(got, want[0]) || code != impl.ErrNone {
				t.Errorf("BestUnits(%d, %v) = %v, %d; want %v", pages, units, got, code, want[0])
			}
		}
	}
}

// TestBestUnitsOfAllPages checks for all numbers of pages what tells the best list: fewer blank
// pages than the smallest unit has, and of no unit as many signatures as make up the next one,
// since those could be exchanged.
func TestBestUnitsOfAllPages(t *testing.T) {
	for _, units := range unitLists() {
		for pages := int64(1); pages <= impl.MaxPages; pages++ {
			got, code := impl.BestUnits(pages, units)
			if len(got) != len(units) || code != impl.ErrNone {
				t.Fatalf("BestUnits(%d, %v) = %v, %d", pages, units, got, code)
			}
			total := int64(0)
			for i, count := range got {
				total += count * units[i]
				if count < 0 || i+1 < len(units) && count*units[i] >= units[i+1] {
					t.Fatalf("BestUnits(%d, %v) = %v", pages, units, got)
				}
			}
			if total < pages || total >= pages+units[0] {
				t.Fatalf("BestUnits(%d, %v) = %v", pages, units, got)
			}
		}
	}
}

func TestBestUnitsErrors(t *testing.T) {
	for _, pages := range []int64{1, 4, 50, 300, impl.MaxPages} {
		for _, units := range notUnitLists() {
			checkNoBestUnits(t, pages, units)
		}
	}
	for _, pages := range notPageNumbers() {
		for _, units := range slices.Concat(unitLists(), notUnitLists()) {
			checkNoBestUnits(t, pages, units)
		}
	}
}

// checkNoBestUnits checks that BestUnits reports an error.
func checkNoBestUnits(t *testing.T, pages int64, units []int64) {
	t.Helper()
	if got, code := impl.BestUnits(pages, units); len(got) != 0 || code != impl.ErrRange {
		t.Errorf("BestUnits(%d, %v) = %v, %d", pages, units[:min(len(units), 10)], got, code)
	}
}

// TestNoGatheredBook checks numbers of pages out of their range and numbers that are no units, with
// orders and pages that are right for other ones.
func TestNoGatheredBook(t *testing.T) {
	check := func(pages int64, unit int64) {
		if got, code := impl.SignatureCount(pages, unit); got != 0 || code != impl.ErrRange {
			t.Errorf("SignatureCount(%d, %d) = %d, %d", pages, unit, got, code)
		}
		for _, page := range []int64{0, 1, 2, 4, -1, pages, unit, impl.MaxPages, math.MinInt64, math.MaxInt64} {
			checkNoSignature(t, pages, unit, page)
		}
		for _, order := range [][]int64{nil, {}, {0}, {1, 0}, {0, 1, 2}, {5}, firstOrder(33), firstOrder(64), firstOrder(65)} {
			checkNotGathered(t, pages, unit, order)
		}
	}
	for _, pages := range notPageNumbers() {
		for _, unit := range slices.Concat(allUnits(), notUnits()) {
			check(pages, unit)
		}
	}
	for _, pages := range []int64{1, 2, 4, 8, 33, 64, 128, 1000, impl.MaxPages} {
		for _, unit := range notUnits() {
			check(pages, unit)
		}
	}
}

func TestNestedPages(t *testing.T) {
	for _, c := range []struct {
		n, k int64
		want []int64
	}{
		{1, 0, []int64{4, 1, 2, 3}},
		{2, 0, []int64{8, 1, 2, 7}},
		{2, 1, []int64{6, 3, 4, 5}},
		{3, 0, []int64{12, 1, 2, 11}},
		{3, 1, []int64{10, 3, 4, 9}},
		{3, 2, []int64{8, 5, 6, 7}},
		{64, 0, []int64{256, 1, 2, 255}},
		{64, 63, []int64{130, 127, 128, 129}},
	} {
		if got, code := impl.NestedPages(c.n, c.k); !slices.Equal(got, c.want) || code != impl.ErrNone {
			t.Errorf("NestedPages(%d, %d) = %v, %d; want %v", c.n, c.k, got, code, c.want)
		}
	}
}

// TestNestedBooks checks every page of all nested books, as they are numbered by hand: it is on one
// sheet, and has one partner, which has it as a partner and with which it has the sum 4 * n + 1.
func TestNestedBooks(t *testing.T) {
	for n := int64(1); n <= impl.MaxNest; n++ {
		seen := map[int64]bool{}
		for k, four := range nestedByHand(n) {
			if got, code := impl.NestedPages(n, int64(k)); !slices.Equal(got, four[:]) || code != impl.ErrNone {
				t.Errorf("NestedPages(%d, %d) = %v, %d; want %v", n, k, got, code, four)
			}
			for i, page := range four {
				seen[page] = true
				sheet, index, code := impl.NestedPlace(n, page)
				if sheet != int64(k) || index != int64(i) || code != impl.ErrNone {
					t.Errorf("NestedPlace(%d, %d) = %d, %d, %d; want %d, %d", n, page, sheet, index, code, k, i)
				}
				partner := [...]int64{four[1], four[0], four[3], four[2]}[i]
				if got, code := impl.PartnerOf(n, page); got != partner || got+page != 4*n+1 || code != impl.ErrNone {
					t.Errorf("PartnerOf(%d, %d) = %d, %d; want %d", n, page, got, code, partner)
				}
				if got, code := impl.PartnerOf(n, partner); got != page || code != impl.ErrNone {
					t.Errorf("PartnerOf(%d, %d) = %d, %d; want %d", n, partner, got, code, page)
				}
			}
		}
		if int64(len(seen)) != 4*n || seen[0] || seen[4*n+1] {
			t.Errorf("a book of %d sheets has the pages %v", n, seen)
		}
	}
}

// TestNestedOutOfRange checks sheets and pages that a nested book does not have.
func TestNestedOutOfRange(t *testing.T) {
	for n := int64(1); n <= impl.MaxNest; n++ {
		for _, k := range []int64{-1, -2, -n, n, n + 1, 2 * n, 4 * n, n + 100, 1 << 32, -1 << 32, 1<<32 + 1, 1 << 61, 1 << 62, math.MaxInt64, math.MinInt64, math.MinInt64 + 1} {
			checkNoSheet(t, n, k)
		}
		for _, page := range []int64{0, -1, -n, -4 * n, 4*n + 1, 4*n + 2, 8 * n, 1000, 1 << 32, 1<<32 + 1, -1 << 32, 1 << 62, math.MaxInt64, math.MinInt64, math.MinInt64 + 1} {
			checkNoNestedPage(t, n, page)
		}
	}
}

// TestNoNestedBook checks numbers of sheets out of their range.
func TestNoNestedBook(t *testing.T) {
	for _, n := range notSheetNumbers() {
		for _, number := range []int64{0, 1, 2, 3, 4, 12, 63, 64, 65, 255, 256, 257, 260, -1, -4, n, n - 1, 4 * n, math.MinInt64, math.MaxInt64} {
			checkNoSheet(t, n, number)
			checkNoNestedPage(t, n, number)
		}
	}
}

// checkNoSheet checks that NestedPages reports an error.
func checkNoSheet(t *testing.T, n int64, k int64) {
	t.Helper()
	if got, code := impl.NestedPages(n, k); len(got) != 0 || code != impl.ErrRange {
		t.Errorf("NestedPages(%d, %d) = %v, %d", n, k, got, code)
	}
}

// checkNoNestedPage checks that NestedPlace and PartnerOf report an error.
func checkNoNestedPage(t *testing.T, n int64, page int64) {
	t.Helper()
	if sheet, index, code := impl.NestedPlace(n, page); sheet != 0 || index != 0 || code != impl.ErrRange {
		t.Errorf("NestedPlace(%d, %d) = %d, %d, %d", n, page, sheet, index, code)
	}
	if got, code := impl.PartnerOf(n, page); got != 0 || code != impl.ErrRange {
		t.Errorf("PartnerOf(%d, %d) = %d, %d", n, page, got, code)
	}
}

// TestSignaturesAreNotShared checks that no function changes an argument or the memory behind it,
// and that results are new memory.
func TestSignaturesAreNotShared(t *testing.T) {
	orderMemory := []int64{1, 0, 77, 77, 77, 77, 77, 77}
	unitsMemory := []int64{4, 16, 32, 78, 78, 78}
	order, units := orderMemory[:2], unitsMemory[:3]
	for range 2 {
		pages, _ := impl.GatherPages(6, 4, order)
		counts, _ := impl.BestUnits(50, units)
		four, _ := impl.NestedPages(3, 2)
		if !slices.Equal(pages, []int64{5, 6, 0, 0, 1, 2, 3, 4}) || !slices.Equal(counts, []int64{1, 1, 1}) || !slices.Equal(four, []int64{8, 5, 6, 7}) {
			t.Errorf("%v, %v, %v", pages, counts, four)
		}
		for _, result := range [][]int64{pages, counts, four} {
			for i := range result {
				result[i] = -9
			}
			_ = append(result, -9, -9, -9)
		}
		impl.GatherPages(6, 4, units)
		impl.BestUnits(50, order)
	}
	if !slices.Equal(orderMemory, []int64{1, 0, 77, 77, 77, 77, 77, 77}) || !slices.Equal(unitsMemory, []int64{4, 16, 32, 78, 78, 78}) {
		t.Errorf("the arguments have become %v and %v", orderMemory, unitsMemory)
	}
}
