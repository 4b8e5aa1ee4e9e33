package tests

import (
	"math"
	"slices"
	"testing"

	"loop.example/g00944/impl"
)

// outOf returns numbers beside the range from low to high, near and far, among them such that are
// in it when their upper half is lost.
func outOf(low int64, high int64) []int64 {
	return []int64{
		low - 1, low - 2, high + 1, high + 2, -high - 1, 2*high + 1, 1<<32 + low, 1<<32 + high, -1<<32 + low, 1 << 61, 1<<62 + low, -1 << 62,
		math.MaxInt64, math.MaxInt64 - 1, math.MinInt64, math.MinInt64 + 1, math.MinInt64 + high,
	}
}

// notThicknesses returns numbers that are no thickness of a paper.
func notThicknesses() []int64 {
	return append(outOf(1, impl.MaxThickness), -1, -120, 1000000)
}

// notLengths returns numbers that are no length.
func notLengths() []int64 {
	return append(outOf(0, impl.MaxNumber), -10, -100, 1<<63/100+1, -1<<63/100-1)
}

// someThicknesses returns thicknesses: the thin ones, the thick ones, and those beside halves and
// wholes of tenths.
func someThicknesses() []int64 {
	list := countedMarks(130)
	for _, near := range []int64{150, 199, 201, 250, 333, 500, 999, 1001, 1250, 1950, 1999} {
		list = append(list, near-1, near, near+1)
	}
	return list
}

// addedCreeps returns the creeps of n sheets, to each of which one more thickness is added.
func addedCreeps(n int64, thickness int64) []int64 {
	creeps := []int64{0}
	for int64(len(creeps)) < n {
		creeps = append(creeps, creeps[len(creeps)-1]+thickness)
	}
	return creeps
}

// nearestTenths returns the number of tenths that differs the least from a number of micrometres,
// the greater one of two. It tries those that are not far away.
func nearestTenths(micrometres int64) int64 {
	best, bestOff := int64(0), micrometres
	for n := max(0, micrometres/100-2); n <= micrometres/100+2; n++ {
		off := max(100*n-micrometres, micrometres-100*n)
		if off <= bestOff {
			best, bestOff = n, off
		}
	}
	return best
}

// leastTenths returns the least number of tenths that is not less than a number of micrometres.
func leastTenths(micrometres int64) int64 {
	n := max(0, micrometres/100-2)
	for 100*n < micrometres {
		n++
	}
	return n
}

// stackedLeaves returns how thick a block becomes when its pages are bound leaf by leaf, two pages
// a leaf.
func stackedLeaves(pages int64, thickness int64) int64 {
	block := int64(0)
	for page := int64(1); page <= pages; page += 2 {
		block += thickness
	}
	return block
}

func TestCreepOf(t *testing.T) {
	for _, c := range []struct{ n, k, thickness, want int64 }{
		{1, 0, 1, 0}, {1, 0, 2000, 0}, {2, 0, 120, 0}, {2, 1, 1, 1}, {2, 1, 2000, 2000}, {5, 3, 120, 360}, {5, 4, 120, 480},
		{64, 0, 2000, 0}, {64, 1, 2000, 2000}, {64, 63, 1, 63}, {64, 63, 2000, 126000}, {64, 62, 2000, 124000},
	} {
		if got, code := impl.CreepOf(c.n, c.k, c.thickness); got != c.want || code != impl.ErrNone {
			t.Errorf("CreepOf(%d, %d, %d) = %d, %d; want %d", c.n, c.k, c.thickness, got, code, c.want)
		}
	}
	if impl.MaxThickness != 2000 {
		t.Errorf("MaxThickness is %d", impl.MaxThickness)
	}
}

func TestCreepTenths(t *testing.T) {
	for _, c := range []struct {
		n, thickness int64
		want         []int64
	}{
		{1, 1, []int64{0}},
		{1, 2000, []int64{0}},
		{2, 49, []int64{0, 0}},
		{2, 50, []int64{0, 1}},
		{2, 51, []int64{0, 1}},
		{2, 149, []int64{0, 1}},
		{2, 150, []int64{0, 2}},
		{2, 151, []int64{0, 2}},
		{4, 100, []int64{0, 1, 2, 3}},
		{5, 25, []int64{0, 0, 1, 1, 1}},
		{5, 125, []int64{0, 1, 3, 4, 5}},
		{6, 50, []int64{0, 1, 1, 2, 2, 3}},
		{3, 1975, []int64{0, 20, 40}},
		{3, 2000, []int64{0, 20, 40}},
	} {
		if got, code := impl.CreepTenths(c.n, c.thickness); !slices.Equal(got, c.want) || code != impl.ErrNone {
			t.Errorf("CreepTenths(%d, %d) = %v, %d; want %v", c.n, c.thickness, got, code, c.want)
		}
	}
}

// TestCreepsOfAllBooks checks every sheet of all nested books of all papers: its creep, that in
// tenths, which is never more than half a tenth off and only ever half a tenth too great, and the
// trim loss, which no other sheet surpasses.
func TestCreepsOfAllBooks(t *testing.T) {
	for n := int64(1); n <= impl.MaxNest; n++ {
		for thickness := int64(1); thickness <= impl.MaxThickness; thickness++ {
			creeps := addedCreeps(n, thickness)
			tenths, code := impl.CreepTenths(n, thickness)
			if len(tenths) != len(creeps) || code != impl.ErrNone {
				t.Fatalf("CreepTenths(%d, %d) = %v, %d", n, thickness, tenths, code)
			}
			for k, creep := range creeps {
				if got, code := impl.CreepOf(n, int64(k), thickness); got != creep || code != impl.ErrNone {
					t.Fatalf("CreepOf(%d, %d, %d) = %d, %d; want %d", n, k, thickness, got, code, creep)
				}
				if off := 100*tenths[k] - creep; off <= -50 || off > 50 || tenths[k] != nearestTenths(creep) {
					t.Fatalf("CreepTenths(%d, %d) has %d for %d micrometres", n, thickness, tenths[k], creep)
				}
			}
			if got, code := impl.TrimLoss(n, thickness); got != slices.Max(creeps) || code != impl.ErrNone {
				t.Fatalf("TrimLoss(%d, %d) = %d, %d; want %d", n, thickness, got, code, slices.Max(creeps))
			}
		}
	}
}

func TestTrimLoss(t *testing.T) {
	for _, c := range []struct{ n, thickness, want int64 }{
		{1, 1, 0}, {1, 2000, 0}, {2, 1, 1}, {5, 120, 480}, {64, 1, 63}, {64, 2000, 126000}, {63, 2000, 124000},
	} {
		if got, code := impl.TrimLoss(c.n, c.thickness); got != c.want || code != impl.ErrNone {
			t.Errorf("TrimLoss(%d, %d) = %d, %d; want %d", c.n, c.thickness, got, code, c.want)
		}
	}
}

func TestMarginsFor(t *testing.T) {
	for _, c := range []struct {
		n, thickness, margin int64
		want                 []int64
		code                 int64
	}{
		{3, 125, 10, []int64{10, 9, 7}, impl.ErrNone},
		{3, 125, 3, []int64{3, 2, 0}, impl.ErrNone},
		{3, 125, 2, nil, impl.ErrState},
		{3, 125, 0, nil, impl.ErrState},
		// 25 micrometres are rounded to nothing, and 50 to a tenth.
		{2, 25, 0, []int64{0, 0}, impl.ErrNone},
		{2, 49, 0, []int64{0, 0}, impl.ErrNone},
		{2, 50, 0, nil, impl.ErrState},
		{2, 50, 1, []int64{1, 0}, impl.ErrNone},
		{3, 25, 1, []int64{1, 1, 0}, impl.ErrNone},
		{1, 2000, 0, []int64{0}, impl.ErrNone},
		{1, 1, impl.MaxNumber, []int64{impl.MaxNumber}, impl.ErrNone},
		{2, 2000, impl.MaxNumber, []int64{impl.MaxNumber, impl.MaxNumber - 20}, impl.ErrNone},
		{2, 2000, 20, []int64{20, 0}, impl.ErrNone},
		{2, 2000, 19, nil, impl.ErrState},
	} {
		if got, code := impl.MarginsFor(c.n, c.thickness, c.margin); !slices.Equal(got, c.want) || code != c.code {
			t.Errorf("MarginsFor(%d, %d, %d) = %v, %d; want %v, %d", c.n, c.thickness, c.margin, got, code, c.want, c.code)
		}
	}
}

// TestMarginsOfAllBooks checks the margins of books with margins of which nothing or just something
// is left on the innermost sheet, and with those that are too small: all margins at the trimmed
// edge are equal, which is where the sheets end that stand out by their creep.
func TestMarginsOfAllBooks(t *testing.T) {
	for n := int64(1); n <= impl.MaxNest; n++ {
		for _, thickness := range someThicknesses() {
			creeps := addedCreeps(n, thickness)
			most := nearestTenths(creeps[n-1])
			for _, margin := range []int64{most, most + 1, most + 100, impl.MaxNumber - 1, impl.MaxNumber} {
				got, code := impl.MarginsFor(n, thickness, margin)
				if int64(len(got)) != n || code != impl.ErrNone {
					t.Fatalf("MarginsFor(%d, %d, %d) = %v, %d", n, thickness, margin, got, code)
				}
				for k, left := range got {
					if left < 0 || left+nearestTenths(creeps[k]) != margin {
						t.Fatalf("MarginsFor(%d, %d, %d) = %v", n, thickness, margin, got)
					}
				}
			}
			for _, margin := range []int64{most - 1, most / 2, 0} {
				if margin >= 0 && margin < most {
					checkNoMargins(t, n, thickness, margin, impl.ErrState)
				}
			}
		}
	}
}

// checkNoMargins checks that MarginsFor reports an error.
func checkNoMargins(t *testing.T, n int64, thickness int64, margin int64, want int64) {
	t.Helper()
	if got, code := impl.MarginsFor(n, thickness, margin); len(got) != 0 || code != want {
		t.Errorf("MarginsFor(%d, %d, %d) = %v, %d; want %d", n, thickness, margin, got, code, want)
	}
}

func TestMostNested(t *testing.T) {
	for _, c := range []struct{ thickness, limit, want int64 }{
		{120, 480, 5}, {120, 479, 4}, {120, 481, 5}, {120, 0, 1}, {120, 119, 1}, {120, 120, 2},
		{1, 0, 1}, {1, 1, 2}, {1, 62, 63}, {1, 63, 64}, {1, 64, 64}, {1, 1000, 64}, {1, impl.MaxNumber, 64},
		{2000, 0, 1}, {2000, 1999, 1}, {2000, 2000, 2}, {2000, 125999, 63}, {2000, 126000, 64}, {2000, 126001, 64}, {2000, 128000, 64},
		{2000, impl.MaxNumber, 64},
	} {
		if got, code := impl.MostNested(c.thickness, c.limit); got != c.want || code != impl.ErrNone {
			t.Errorf("MostNested(%d, %d) = %d, %d; want %d", c.thickness, c.limit, got, code, c.want)
		}
	}
}

// TestMostNestedOfAllPapers checks limits that the creep of some sheet meets, and those that it
// misses by one micrometre: as many sheets are nested as keep the limit, one after the other.
func TestMostNestedOfAllPapers(t *testing.T) {
	for thickness := int64(1); thickness <= impl.MaxThickness; thickness++ {
		creeps := addedCreeps(impl.MaxNest, thickness)
		limits := []int64{creeps[63] + thickness, impl.MaxNumber - 1, impl.MaxNumber}
		for _, creep := range creeps {
			limits = append(limits, creep-1, creep, creep+1)
		}
		for _, limit := range limits {
			if limit < 0 {
				continue
			}
			want := int64(0)
			for _, creep := range creeps {
				if creep <= limit {
					want++
				}
			}
			if got, code := impl.MostNested(thickness, limit); got != want || code != impl.ErrNone {
				t.Fatalf("MostNested(%d, %d) = %d, %d; want %d", thickness, limit, got, code, want)
			}
		}
	}
}

func TestBlockThickness(t *testing.T) {
	for _, c := range []struct{ pages, thickness, want int64 }{
		{1, 1, 1}, {2, 1, 1}, {3, 1, 2}, {4, 1, 2}, {1, 2000, 2000}, {2, 2000, 2000}, {3, 2000, 4000}, {100, 90, 4500}, {101, 90, 4590},
		{4093, 1, 2047}, {4094, 1, 2047}, {4095, 1, 2048}, {4096, 1, 2048}, {4095, 2000, 4096000}, {4096, 2000, 4096000},
	} {
		if got, code := impl.BlockThickness(c.pages, c.thickness); got != c.want || code != impl.ErrNone {
			t.Errorf("BlockThickness(%d, %d) = %d, %d; want %d", c.pages, c.thickness, got, code, c.want)
		}
	}
}

func TestSpineWidth(t *testing.T) {
	for _, c := range []struct{ pages, thickness, glue, want int64 }{
		{1, 1, 0, 1}, {2, 1, 0, 1}, {1, 99, 0, 1}, {1, 100, 0, 1}, {1, 101, 0, 2}, {2, 101, 0, 2}, {3, 100, 0, 2}, {3, 101, 0, 3},
		{1, 99, 1, 1}, {1, 100, 1, 2}, {1, 50, 50, 1}, {1, 50, 51, 2}, {1, 1, 2000, 21}, {1, 100, 2000, 21}, {1, 101, 2000, 22},
		{100, 90, 0, 45}, {101, 90, 0, 46}, {101, 90, 10, 46}, {101, 90, 11, 47}, {101, 90, 300, 49}, {101, 90, 310, 49}, {101, 90, 311, 50},
		{4096, 2000, 0, 40960}, {4095, 2000, 0, 40960}, {4096, 2000, 1, 40961}, {4096, 2000, 2000, 40980}, {4094, 1999, 2000, 40940},
		{4096, 1, 0, 21}, {4096, 1, 52, 21}, {4096, 1, 53, 22},
	} {
		if got, code := impl.SpineWidth(c.pages, c.thickness, c.glue); got != c.want || code != impl.ErrNone {
			t.Errorf("SpineWidth(%d, %d, %d) = %d, %d; want %d", c.pages, c.thickness, c.glue, got, code, c.want)
		}
	}
}

// TestBlocksOfAllPages checks blocks of all numbers of pages, bound leaf by leaf.
func TestBlocksOfAllPages(t *testing.T) {
	for pages := int64(1); pages <= impl.MaxPages; pages++ {
		for _, thickness := range []int64{1, 2, 49, 50, 90, 99, 100, 101, 125, 1000, 1999, 2000} {
			block := stackedLeaves(pages, thickness)
			if got, code := impl.BlockThickness(pages, thickness); got != block || code != impl.ErrNone {
				t.Fatalf("BlockThickness(%d, %d) = %d, %d; want %d", pages, thickness, got, code, block)
			}
			// The glue fills up the last tenth, or is one micrometre more than that.
			whole := 100*leastTenths(block) - block
			for _, glue := range []int64{0, 1, 50, 99, 100, whole, whole + 1, 1999, impl.MaxThickness} {
				want := leastTenths(block + glue)
				if got, code := impl.SpineWidth(pages, thickness, glue); got != want || code != impl.ErrNone {
					t.Fatalf("SpineWidth(%d, %d, %d) = %d, %d; want %d", pages, thickness, glue, got, code, want)
				}
			}
		}
	}
}

func TestThicknessRange(t *testing.T) {
	for _, c := range []struct{ pages, block, low, high int64 }{
		{1, 1, 1, 100}, {2, 1, 1, 100}, {1, 2, 101, 200}, {1, 20, 1901, 2000}, {2, 20, 1901, 2000}, {3, 1, 1, 50}, {3, 2, 51, 100},
		{3, 40, 1951, 2000}, {5, 1, 1, 33}, {5, 2, 34, 66}, {5, 3, 67, 100}, {5, 60, 1967, 2000}, {100, 45, 89, 90}, {100, 46, 91, 92},
		{100, 1, 1, 2}, {200, 1, 1, 1}, {199, 7, 7, 7}, {202, 2, 1, 1}, {4096, 21, 1, 1}, {4096, 40960, 2000, 2000}, {4095, 40960, 2000, 2000},
		{4094, 40940, 2000, 2000}, {4096, 40940, 1999, 1999},
	} {
		low, high, code := impl.ThicknessRange(c.pages, c.block)
		if low != c.low || high != c.high || code != impl.ErrNone {
			t.Errorf("ThicknessRange(%d, %d) = %d, %d, %d; want %d, %d", c.pages, c.block, low, high, code, c.low, c.high)
		}
	}
	for _, c := range []struct{ pages, block int64 }{
		{1, 0}, {2, 0}, {3, 0}, {201, 0}, {4096, 0}, {1, 21}, {2, 21}, {3, 41}, {201, 1}, {202, 1}, {4096, 1}, {4096, 5}, {4096, 20}, {4096, 22},
		{4096, 40939}, {4096, 40959}, {4096, 40961}, {4095, 40961}, {1, impl.MaxNumber}, {4096, impl.MaxNumber}, {100, impl.MaxNumber - 1},
	} {
		checkNoThickness(t, c.pages, c.block, impl.ErrNotFound)
	}
}

// TestThicknessesAreFound checks for numbers of pages which thicknesses make a block, and that no
// thickness makes the others: blocks of all thicknesses are bound first.
func TestThicknessesAreFound(t *testing.T) {
	for _, pages := range append(somePageNumbers(), 199, 200, 201, 202, 203, 399, 400, 401, 4093, 4095, 4096) {
		made := map[int64][]int64{}
		widest := int64(0)
		for thickness := int64(1); thickness <= impl.MaxThickness; thickness++ {
			widest = leastTenths((pages + pages%2) / 2 * thickness)
			made[widest] = append(made[widest], thickness)
		}
		for block := range widest + 30 {
			list := made[block]
			if len(list) == 0 {
				checkNoThickness(t, pages, block, impl.ErrNotFound)
				continue
			}
			low, high, code := impl.ThicknessRange(pages, block)
			if low != list[0] || high != list[len(list)-1] || code != impl.ErrNone {
				t.Fatalf("ThicknessRange(%d, %d) = %d, %d, %d; want %d, %d", pages, block, low, high, code, list[0], list[len(list)-1])
			}
		}
	}
}

// TestThicknessesOfAllBlocks checks that every thickness is found from the block that it makes, and
// that those just beside what is found make other blocks.
func TestThicknessesOfAllBlocks(t *testing.T) {
	for pages := int64(1); pages <= impl.MaxPages; pages++ {
		next := int64(1)
		for next <= impl.MaxThickness {
			block, code := impl.SpineWidth(pages, next, 0)
			if code != impl.ErrNone {
				t.Fatalf("SpineWidth(%d, %d, 0) = %d, %d", pages, next, block, code)
			}
			low, high, code := impl.ThicknessRange(pages, block)
			if low != next || high < low || high > impl.MaxThickness || code != impl.ErrNone {
				t.Fatalf("ThicknessRange(%d, %d) = %d, %d, %d; want %d as the least", pages, block, low, high, code, next)
			}
			if width, _ := impl.SpineWidth(pages, high, 0); width != block {
				t.Fatalf("SpineWidth(%d, %d, 0) = %d; want %d", pages, high, width, block)
			}
			next = high + 1
		}
	}
}

// checkNoThickness checks that ThicknessRange reports an error.
func checkNoThickness(t *testing.T, pages int64, block int64, want int64) {
	t.Helper()
	if low, high, code := impl.ThicknessRange(pages, block); low != 0 || high != 0 || code != want {
		t.Errorf("ThicknessRange(%d, %d) = %d, %d, %d; want %d", pages, block, low, high, code, want)
	}
}

// checkNoCreep checks that the functions of creeps report an error for a number of sheets and a
// thickness, of which one is wrong, with sheets and margins that could be right or not: they report
// no other error for a margin that is too small.
func checkNoCreep(t *testing.T, n int64, thickness int64) {
	t.Helper()
	for _, k := range []int64{0, 1, 63, 64, -1, n, n - 1, math.MinInt64, math.MaxInt64} {
		checkNoSheetCreep(t, n, k, thickness)
	}
	if got, code := impl.CreepTenths(n, thickness); len(got) != 0 || code != impl.ErrRange {
		t.Errorf("CreepTenths(%d, %d) = %v, %d", n, thickness, got, code)
	}
	if got, code := impl.TrimLoss(n, thickness); got != 0 || code != impl.ErrRange {
		t.Errorf("TrimLoss(%d, %d) = %d, %d", n, thickness, got, code)
	}
	for _, margin := range []int64{0, 1, 100, impl.MaxNumber, -1, impl.MaxNumber + 1, math.MinInt64, math.MaxInt64} {
		checkNoMargins(t, n, thickness, margin, impl.ErrRange)
	}
}

// checkNoSheetCreep checks that CreepOf reports an error.
func checkNoSheetCreep(t *testing.T, n int64, k int64, thickness int64) {
	t.Helper()
	if got, code := impl.CreepOf(n, k, thickness); got != 0 || code != impl.ErrRange {
		t.Errorf("CreepOf(%d, %d, %d) = %d, %d", n, k, thickness, got, code)
	}
}

func TestCreepErrors(t *testing.T) {
	for _, n := range notSheetNumbers() {
		for _, thickness := range append(notThicknesses(), 1, 2, 120, 2000) {
			checkNoCreep(t, n, thickness)
		}
	}
	for n := int64(1); n <= impl.MaxNest; n++ {
		for _, thickness := range notThicknesses() {
			checkNoCreep(t, n, thickness)
		}
		for _, thickness := range []int64{1, 120, 2000} {
			for _, k := range append(outOf(0, n-1), -n, 2*n, 1<<61+1) {
				checkNoSheetCreep(t, n, k, thickness)
			}
			for _, margin := range notLengths() {
				checkNoMargins(t, n, thickness, margin, impl.ErrRange)
			}
		}
	}
}

func TestMostNestedErrors(t *testing.T) {
	check := func(thickness int64, limit int64) {
		if got, code := impl.MostNested(thickness, limit); got != 0 || code != impl.ErrRange {
			t.Errorf("MostNested(%d, %d) = %d, %d", thickness, limit, got, code)
		}
	}
	for _, thickness := range notThicknesses() {
		for _, limit := range append(notLengths(), 0, 1, 480, impl.MaxNumber) {
			check(thickness, limit)
		}
	}
	for _, limit := range notLengths() {
		for _, thickness := range []int64{1, 2, 120, 2000} {
			check(thickness, limit)
		}
	}
}

// TestBlockErrors checks blocks with wrong numbers of pages, thicknesses and layers of glue, each
// beside right and wrong ones of the others.
func TestBlockErrors(t *testing.T) {
	wrongPages, wrongThicknesses, wrongGlues := append(notPageNumbers(), outOf(1, impl.MaxPages)...), notThicknesses(), outOf(0, impl.MaxThickness)
	rightPages, rightThicknesses, rightGlues := []int64{1, 2, 101, impl.MaxPages}, []int64{1, 90, impl.MaxThickness}, []int64{0, 1, 300, impl.MaxThickness}
	for _, pages := range slices.Concat(rightPages, wrongPages) {
		for _, thickness := range slices.Concat(rightThicknesses, wrongThicknesses) {
			wrong := !slices.Contains(rightPages, pages) || !slices.Contains(rightThicknesses, thickness)
			if got, code := impl.BlockThickness(pages, thickness); wrong && (got != 0 || code != impl.ErrRange) {
				t.Errorf("BlockThickness(%d, %d) = %d, %d", pages, thickness, got, code)
			}
			for _, glue := range slices.Concat(rightGlues, wrongGlues) {
				got, code := impl.SpineWidth(pages, thickness, glue)
				if (wrong || !slices.Contains(rightGlues, glue)) && (got != 0 || code != impl.ErrRange) {
					t.Errorf("SpineWidth(%d, %d, %d) = %d, %d", pages, thickness, glue, got, code)
				}
			}
		}
	}
}

// TestThicknessRangeErrors checks that wrong arguments are told before blocks that no thickness
// makes.
func TestThicknessRangeErrors(t *testing.T) {
	for _, pages := range append(notPageNumbers(), outOf(1, impl.MaxPages)...) {
		for _, block := range append(notLengths(), 0, 1, 21, 46, 40960, impl.MaxNumber) {
			checkNoThickness(t, pages, block, impl.ErrRange)
		}
	}
	for _, block := range notLengths() {
		for _, pages := range []int64{1, 2, 100, 201, impl.MaxPages} {
			checkNoThickness(t, pages, block, impl.ErrRange)
		}
	}
}

// TestCreepsAreNotShared checks that the lists are new memory each time.
func TestCreepsAreNotShared(t *testing.T) {
	for range 2 {
		tenths, _ := impl.CreepTenths(5, 125)
		margins, _ := impl.MarginsFor(5, 125, 10)
		if !slices.Equal(tenths, []int64{0, 1, 3, 4, 5}) || !slices.Equal(margins, []int64{10, 9, 7, 6, 5}) {
			t.Errorf("%v, %v", tenths, margins)
		}
		for _, result := range [][]int64{tenths, margins} {
			for i := range result {
				result[i] = -9
			}
			_ = append(result, -9, -9, -9)
		}
	}
}
