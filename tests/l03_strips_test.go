package tests

import (
	"math"
	"slices"
	"strings"
	"testing"

	"loop.example/g00944/impl"
)

// allFolds returns all folds, shorter ones first.
func allFolds() []string {
	all := []string{""}
	for i := 0; len(all[i]) < impl.MaxStripFolds; i++ {
		all = append(all, all[i]+"L", all[i]+"R")
	}
	return all
}

// notFolds returns strings that are no folds, among them ones of which the first letters are.
func notFolds() []string {
	return []string{
		"LLLLLLL", "RRRRRRR", "LRLRLRL", "RLLLLLR", strings.Repeat("R", 64), strings.Repeat("LR", 100000),
		"l", "r", "Lr", "lR", "T", "B", "LTR", "BLR", "LRB", "M", "V", "1", "-",
		" ", " L", "L ", "L R", "L,R", "LR\n", "\nLR", "L\x00", "\x00", "LRX", "XLR", "LXR", "LLLLLX", "LLLLLLX", "XXXXXXX",
		"\xff", "L\xffR", "\u013d", "\u0156", "L\u0301", "\uff2c", "\uff32",
	}
}

// foldedPiles folds a strip by hand, pile by pile, and returns the one that is left, from the top
// to the bottom, and the creases: each one is told when it is made, by the face of its cells.
func foldedPiles(s string) ([]int64, string) {
	var piles [][]int64
	for c := range int64(1) << len(s) {
		piles = append(piles, []int64{c + 1})
	}
	creases := make([]byte, len(piles)-1)
	for _, letter := range s {
		half := len(piles) / 2
		for layer, mark := range piles[half-1] {
			other := piles[half][layer]
			kind := byte('V')
			if mark < 0 {
				mark, other, kind = -mark, -other, 'M'
			}
			creases[min(mark, other)-1] = kind
		}
		var next [][]int64
		for i := range half {
			still, moved := piles[half+i], piles[half-1-i]
			if letter == 'R' {
				still, moved = piles[i], piles[len(piles)-1-i]
			}
			next = append(next, append(turnedPile(moved), still...))
		}
		piles = next
	}
	return piles[0], string(creases)
}

// turnedPile returns a pile that is turned over.
func turnedPile(pile []int64) []int64 {
	turned := make([]int64, len(pile))
	for i, mark := range pile {
		turned[len(pile)-1-i] = -mark
	}
	return turned
}

// countedMarks returns 1 to n, all face up.
func countedMarks(n int64) []int64 {
	marks := make([]int64, n)
	for i := range marks {
		marks[i] = int64(i) + 1
	}
	return marks
}

// foldsByStack returns the folds of each stack. No two folds have the same one.
func foldsByStack(t *testing.T) map[[64]int64]string {
	t.Helper()
	result := map[[64]int64]string{}
	for _, s := range allFolds() {
		stack, _ := foldedPiles(s)
		result[stackKey(stack)] = s
	}
	if len(result) != len(allFolds()) {
		t.Fatalf("%d folds have %d stacks", len(allFolds()), len(result))
	}
	return result
}

// stackKey returns a list of 1 to 64 marks, none of them 0, as a key of a map.
func stackKey(list []int64) [64]int64 {
	var key [64]int64
	copy(key[:], list)
	return key
}

// checkFindFolds checks that FindFolds finds the folds of a stack, and none of any other list.
func checkFindFolds(t *testing.T, known map[[64]int64]string, list []int64) {
	t.Helper()
	want, found := known[stackKey(list)]
	wantCode := int64(impl.ErrNone)
	if !found {
		wantCode = impl.ErrNotFound
	}
	if got, code := impl.FindFolds(list); got != want || code != wantCode {
		t.Errorf("FindFolds(%v) = %q, %d; want %q, %d", list, got, code, want, wantCode)
	}
}

func TestIsFolds(t *testing.T) {
	all := allFolds()
	if len(all) != 127 {
		t.Fatalf("there are %d folds", len(all))
	}
	for _, s := range all {
		if !impl.IsFolds(s) {
			t.Errorf("IsFolds(%q) = false", s)
		}
		if len(s) == impl.MaxStripFolds && (impl.IsFolds(s+"L") || impl.IsFolds(s+"R")) {
			t.Errorf("IsFolds(%q and one more) = true", s)
		}
		for i := range s {
			for _, other := range []string{"l", "r", "T", "B", " ", "\x00", "\xff"} {
				if wrong := s[:i] + other + s[i+1:]; impl.IsFolds(wrong) {
					t.Errorf("IsFolds(%q) = true", wrong)
				}
			}
		}
	}
	for _, s := range notFolds() {
		if impl.IsFolds(s) {
			t.Errorf("IsFolds(%q) = true", s[:min(len(s), 30)])
		}
	}
	if impl.MaxStripFolds != 6 {
		t.Errorf("the limit is %d", impl.MaxStripFolds)
	}
}

func TestFoldStripAndCreases(t *testing.T) {
	for _, c := range []struct {
		s       string
		stack   []int64
		creases string
	}{
		{"", []int64{1}, ""},
		{"L", []int64{-1, 2}, "V"},
		{"R", []int64{-2, 1}, "V"},
		{"LL", []int64{-3, 2, -1, 4}, "MVV"},
		{"LR", []int64{-4, 1, -2, 3}, "MVV"},
		{"RL", []int64{-1, 4, -3, 2}, "VVM"},
		{"RR", []int64{-2, 3, -4, 1}, "VVM"},
		{"LLL", []int64{-7, 2, -3, 6, -5, 4, -1, 8}, "MMVVMVV"},
		{"LLR", []int64{-8, 1, -4, 5, -6, 3, -2, 7}, "MMVVMVV"},
		{"LRL", []int64{-5, 4, -1, 8, -7, 2, -3, 6}, "VMMVVVM"},
		{"RRR", []int64{-2, 7, -6, 3, -4, 5, -8, 1}, "VVMVVMM"},
	} {
		if stack, code := impl.FoldStrip(c.s); !slices.Equal(stack, c.stack) || code != impl.ErrNone {
			t.Errorf("FoldStrip(%q) = %v, %d; want %v", c.s, stack, code, c.stack)
		}
		if creases, code := impl.CreasesOf(c.s); creases != c.creases || code != impl.ErrNone {
			t.Errorf("CreasesOf(%q) = %q, %d; want %q", c.s, creases, code, c.creases)
		}
	}
}

// TestFoldsByHand holds all functions against all folds, folded by hand.
func TestFoldsByHand(t *testing.T) {
	for _, s := range allFolds() {
		stack, creases := foldedPiles(s)
		if got, code := impl.FoldStrip(s); !slices.Equal(got, stack) || code != impl.ErrNone {
			t.Errorf("FoldStrip(%q) = %v, %d; want %v", s, got, code, stack)
		}
		if got, code := impl.CreasesOf(s); got != creases || code != impl.ErrNone {
			t.Errorf("CreasesOf(%q) = %q, %d; want %q", s, got, code, creases)
		}
		if got, code := impl.FindFolds(stack); got != s || code != impl.ErrNone {
			t.Errorf("FindFolds(%v) = %q, %d; want %q", stack, got, code, s)
		}
		var faces [2]int64
		for place, mark := range stack {
			cell := mark - 1
			if mark < 0 {
				cell = -mark - 1
				faces[1]++
			} else {
				faces[0]++
			}
			if got, code := impl.PlaceOf(s, cell); got != int64(place) || code != impl.ErrNone {
				t.Errorf("PlaceOf(%q, %d) = %d, %d; want %d", s, cell, got, code, place)
			}
		}
		if up, down, code := impl.CountFaces(s); up != faces[0] || down != faces[1] || code != impl.ErrNone {
			t.Errorf("CountFaces(%q) = %d, %d, %d; want %v", s, up, down, code, faces)
		}
		turned := turnedPile(stack)
		if got, code := impl.TurnStack(stack); !slices.Equal(got, turned) || code != impl.ErrNone {
			t.Errorf("TurnStack(%v) = %v, %d; want %v", stack, got, code, turned)
		}
	}
}

// TestMirrorFolds also checks the guarantee that mirrored folds give the mirrored stack: that of
// the strip whose cells are counted from the right to the left.
func TestMirrorFolds(t *testing.T) {
	for _, c := range [][2]string{{"", ""}, {"L", "R"}, {"R", "L"}, {"LLR", "RRL"}, {"LRLRRR", "RLRLLL"}} {
		if got, code := impl.MirrorFolds(c[0]); got != c[1] || code != impl.ErrNone {
			t.Errorf("MirrorFolds(%q) = %q, %d; want %q", c[0], got, code, c[1])
		}
	}
	for _, s := range allFolds() {
		mirrored, code := impl.MirrorFolds(s)
		if back, _ := impl.MirrorFolds(mirrored); len(mirrored) != len(s) || back != s || code != impl.ErrNone {
			t.Errorf("MirrorFolds(%q) = %q, %d, and of that %q", s, mirrored, code, back)
		}
		for i := range s {
			if mirrored[i] == s[i] {
				t.Errorf("MirrorFolds(%q) = %q", s, mirrored)
			}
		}
		want, _ := foldedPiles(s)
		cells := int64(len(want))
		for i, mark := range want {
			if want[i] = cells + 1 - mark; mark < 0 {
				want[i] = -(cells + 1 + mark)
			}
		}
		if got, code := impl.FoldStrip(mirrored); !slices.Equal(got, want) || code != impl.ErrNone {
			t.Errorf("FoldStrip(%q), the mirrored %q, = %v, %d; want %v", mirrored, s, got, code, want)
		}
	}
}

// TestFindFoldsOfShortLists looks at all lists of up to four marks.
func TestFindFoldsOfShortLists(t *testing.T) {
	known := foldsByStack(t)
	count := 0
	var check func(list []int64, cells int)
	check = func(list []int64, cells int) {
		if len(list) == cells {
			count++
			checkFindFolds(t, known, list)
			return
		}
		for mark := range int64(cells) + 1 {
			if mark > 0 && !slices.Contains(list, mark) && !slices.Contains(list, -mark) {
				check(append(slices.Clone(list), mark), cells)
				check(append(slices.Clone(list), -mark), cells)
			}
		}
	}
	for cells := 1; cells <= 4; cells++ {
		check(nil, cells)
	}
	if count != 2+8+48+384 {
		t.Errorf("%d lists were looked at", count)
	}
}

// TestFindFoldsOfChangedStacks turns one cell of each stack over, or exchanges two of them: what
// becomes of the stack is no stack, or that of other folds.
func TestFindFoldsOfChangedStacks(t *testing.T) {
	known := foldsByStack(t)
	check := func(list []int64) {
		t.Helper()
		checkFindFolds(t, known, list)
	}
	for _, s := range allFolds() {
		stack, _ := foldedPiles(s)
		check(turnedPile(stack))
		slices.Reverse(stack)
		check(stack)
		slices.Reverse(stack)
		for i := range stack {
			stack[i] = -stack[i]
			check(stack)
			stack[i] = -stack[i]
			for j := range i {
				stack[i], stack[j] = stack[j], stack[i]
				check(stack)
				stack[i], stack[j] = stack[j], stack[i]
			}
		}
	}
}

// TestListsOfAnyLength looks at lists of 1 to 64 marks: none but 1 itself is a stack, and all of
// them can be turned over.
func TestListsOfAnyLength(t *testing.T) {
	for n := int64(1); n <= 64; n++ {
		up := countedMarks(n)
		down := turnedPile(up)
		for _, list := range [][]int64{up, down} {
			wantCode := int64(impl.ErrNotFound)
			if n == 1 && list[0] == 1 {
				wantCode = impl.ErrNone
			}
			if s, code := impl.FindFolds(list); s != "" || code != wantCode {
				t.Errorf("FindFolds(%v) = %q, %d; want %d", list, s, code, wantCode)
			}
			if got, code := impl.TurnStack(list); !slices.Equal(got, turnedPile(list)) || code != impl.ErrNone {
				t.Errorf("TurnStack(%v) = %v, %d", list, got, code)
			}
		}
	}
	for _, c := range [][2][]int64{
		{{1}, {-1}},
		{{-2, 1, 3}, {-3, -1, 2}},
		{{-2, 3, -4, 1}, {-1, 4, -3, 2}},
		{{5, 4, -3, 2, -1}, {1, -2, 3, -4, -5}},
	} {
		for i := range c {
			if got, code := impl.TurnStack(c[i]); !slices.Equal(got, c[1-i]) || code != impl.ErrNone {
				t.Errorf("TurnStack(%v) = %v, %d; want %v", c[i], got, code, c[1-i])
			}
		}
	}
}

// TestInvalidLists also checks that ErrInvalid comes before ErrNotFound.
func TestInvalidLists(t *testing.T) {
	change := func(place int, mark int64) []int64 {
		stack, _ := foldedPiles("LRRLLR")
		stack[place] = mark
		return stack
	}
	for _, list := range [][]int64{
		nil, {}, countedMarks(65), turnedPile(countedMarks(65)), countedMarks(128), countedMarks(1000), make([]int64, 64), make([]int64, 65),
		{0}, {2}, {-2}, {65}, {-65}, {math.MaxInt64}, {math.MinInt64}, {math.MinInt64 + 1}, {1<<32 + 1}, {-(1 << 32) - 1},
		{0, 1}, {1, 0}, {1, 1}, {1, -1}, {-1, 1}, {-2, 2}, {-1, 3}, {1, 3}, {2, 3}, {-3, 1}, {0, 2}, {-1, math.MinInt64}, {math.MinInt64, 1},
		{-4, 1, -2, 4}, {-4, 1, -2, 2}, {-4, 1, -2, 5}, {-4, 1, 0, 3}, {-4, 1, -5, 3}, {-4, 1, -2, math.MaxInt64},
		change(0, 0), change(63, 0), change(0, 65), change(63, 65), change(20, -65), change(31, math.MinInt64), change(63, math.MinInt64),
	} {
		if s, code := impl.FindFolds(list); s != "" || code != impl.ErrInvalid {
			t.Errorf("FindFolds(%v) = %q, %d", list, s, code)
		}
		if got, code := impl.TurnStack(list); len(got) != 0 || code != impl.ErrInvalid {
			t.Errorf("TurnStack(%v) = %v, %d", list, got, code)
		}
	}
}

func TestPlaceOfNoCell(t *testing.T) {
	for _, s := range allFolds() {
		cells := int64(1) << len(s)
		for _, cell := range []int64{-1, -2, -cells, -cells - 1, math.MinInt64, cells, cells + 1, 64, 1 << 32, 1<<32 + cells - 1, math.MaxInt64} {
			if place, code := impl.PlaceOf(s, cell); place != 0 || code != impl.ErrRange {
				t.Errorf("PlaceOf(%q, %d) = %d, %d", s, cell, place, code)
			}
		}
	}
}

// TestInvalidFolds also checks that ErrInvalid comes before ErrRange.
func TestInvalidFolds(t *testing.T) {
	for _, s := range notFolds() {
		name := s[:min(len(s), 30)]
		if stack, code := impl.FoldStrip(s); len(stack) != 0 || code != impl.ErrInvalid {
			t.Errorf("FoldStrip(%q) = %v, %d", name, stack, code)
		}
		if creases, code := impl.CreasesOf(s); creases != "" || code != impl.ErrInvalid {
			t.Errorf("CreasesOf(%q) = %q, %d", name, creases, code)
		}
		for _, cell := range []int64{0, 1, 63, 64, 127, -1, math.MaxInt64, math.MinInt64} {
			if place, code := impl.PlaceOf(s, cell); place != 0 || code != impl.ErrInvalid {
				t.Errorf("PlaceOf(%q, %d) = %d, %d", name, cell, place, code)
			}
		}
		if mirrored, code := impl.MirrorFolds(s); mirrored != "" || code != impl.ErrInvalid {
			t.Errorf("MirrorFolds(%q) = %q, %d", name, mirrored, code)
		}
		if up, down, code := impl.CountFaces(s); up != 0 || down != 0 || code != impl.ErrInvalid {
			t.Errorf("CountFaces(%q) = %d, %d, %d", name, up, down, code)
		}
	}
}

// TestStacksAreNotShared checks that no function changes a list or the memory behind it, and that
// results are new memory.
func TestStacksAreNotShared(t *testing.T) {
	backing := []int64{-4, 1, -2, 3, 7, 7, 7}
	list := backing[:4]
	for range 2 {
		impl.FindFolds(list)
		turned, _ := impl.TurnStack(list)
		folded, _ := impl.FoldStrip("LR")
		if !slices.Equal(turned, []int64{-3, 2, -1, 4}) || !slices.Equal(folded, []int64{-4, 1, -2, 3}) {
			t.Errorf("TurnStack and FoldStrip = %v, %v", turned, folded)
		}
		for i := range turned {
			turned[i], folded[i] = -9, -9
		}
		_ = append(turned, -9, -9, -9)
		_ = append(folded, -9, -9, -9)
	}
	if !slices.Equal(backing, []int64{-4, 1, -2, 3, 7, 7, 7}) {
		t.Errorf("the list has become %v", backing)
	}
}
