package tests

import (
	"math"
	"slices"
	"strings"
	"testing"

	"loop.example/g00944/impl"
)

// sheetSize is the number of columns and rows of a sheet.
type sheetSize struct {
	wide int64
	high int64
}

// allSheets returns the sixteen sheets.
func allSheets() []sheetSize {
	var sheets []sheetSize
	for _, wide := range []int64{1, 2, 4, 8} {
		for _, high := range []int64{1, 2, 4, 8} {
			sheets = append(sheets, sheetSize{wide, high})
		}
	}
	return sheets
}

// notSheets returns sizes that are none of a sheet, each with one wrong side or two.
func notSheets() []sheetSize {
	var sizes []sheetSize
	for _, n := range []int64{
		0, 3, 5, 6, 7, 9, 10, 12, 15, 16, 17, 32, 64, 1 << 32, 1<<32 + 1, 1<<32 + 8, 1 << 62, math.MaxInt64,
		-1, -2, -3, -4, -8, -16, -1 << 32, math.MinInt64 + 1, math.MinInt64,
	} {
		for _, side := range []int64{1, 2, 4, 8} {
			sizes = append(sizes, sheetSize{n, side}, sheetSize{side, n})
		}
		sizes = append(sizes, sheetSize{n, n}, sheetSize{n, 3}, sheetSize{0, n})
	}
	return sizes
}

// foldsToOne returns how many folds halve a side to 1.
func foldsToOne(side int64) int {
	return map[int64]int{1: 0, 2: 1, 4: 2, 8: 3}[side]
}

// listedSchemes returns the schemes for a sheet, picked out of all strings of the letters.
func listedSchemes(size sheetSize) []string {
	across, along := foldsToOne(size.wide), foldsToOne(size.high)
	var schemes []string
	for _, s := range stringsOf("BLRT", across+along) {
		if countLetters(s, "LR") == across && countLetters(s, "TB") == along {
			schemes = append(schemes, s)
		}
	}
	return schemes
}

// stringsOf returns all strings of some letters with a length, in the order of the letters.
func stringsOf(letters string, length int) []string {
	all := []string{""}
	for range length {
		var longer []string
		for _, s := range all {
			for _, letter := range letters {
				longer = append(longer, s+string(letter))
			}
		}
		all = longer
	}
	return all
}

// countLetters returns how many letters of s are some of letters.
func countLetters(s string, letters string) int {
	count := 0
	for _, letter := range s {
		if strings.ContainsRune(letters, letter) {
			count++
		}
	}
	return count
}

// foldedSheet folds a sheet by hand and returns the pile that is left, from the top to the bottom.
func foldedSheet(size sheetSize, scheme string) []impl.Leaf {
	grid := make([][][]impl.Leaf, size.high)
	for y := range grid {
		for x := range size.wide {
			grid[y] = append(grid[y], []impl.Leaf{{X: x, Y: int64(y)}})
		}
	}
	return foldedGrid(grid, scheme,
		func(leaf *impl.Leaf) { leaf.FlipX = !leaf.FlipX },
		func(leaf *impl.Leaf) { leaf.FlipY = !leaf.FlipY })
}

// foldedGrid folds a grid of piles fold by fold and returns the pile that is left. Columns are put
// upon one another row by row, and rows column by column; the functions turn over what folds
// across and folds along move.
func foldedGrid[T any](grid [][][]T, scheme string, across func(cell *T), along func(cell *T)) []T {
	for _, letter := range scheme {
		switch letter {
		case 'L', 'R':
			for y, row := range grid {
				grid[y] = foldedRow(row, letter == 'L', across)
			}
		case 'T', 'B':
			columns := exchangedAxes(grid)
			for x, column := range columns {
				columns[x] = foldedRow(column, letter == 'T', along)
			}
			grid = exchangedAxes(columns)
		}
	}
	return grid[0][0]
}

// foldedRow puts one half of a row of piles, turned over, on top of the other half.
func foldedRow[T any](row [][]T, firstMoves bool, turn func(cell *T)) [][]T {
	half := len(row) / 2
	moving, lying := row[half:], row[:half]
	if firstMoves {
		moving, lying = lying, moving
	}
	var result [][]T
	for i := range half {
		pile := slices.Clone(moving[half-1-i])
		slices.Reverse(pile)
		for j := range pile {
			turn(&pile[j])
		}
		result = append(result, append(pile, lying[i]...))
	}
	return result
}

// exchangedAxes returns the columns of a grid as rows.
func exchangedAxes[T any](grid [][][]T) [][][]T {
	result := make([][][]T, len(grid[0]))
	for x := range result {
		for y := range grid {
			result[x] = append(result[x], grid[y][x])
		}
	}
	return result
}

// leavesKey returns a list of at most 64 leaves as a key of a map. Behind them stands what is no
// leaf, so that lists of different lengths differ.
func leavesKey(leaves []impl.Leaf) [64]impl.Leaf {
	var key [64]impl.Leaf
	for i := range key {
		key[i] = impl.Leaf{X: -1, Y: -1}
	}
	copy(key[:], leaves)
	return key
}

// schemesByLeaves returns the first scheme of a sheet for each list of leaves that schemes give.
func schemesByLeaves(size sheetSize) map[[64]impl.Leaf]string {
	result := map[[64]impl.Leaf]string{}
	for _, scheme := range slices.Backward(listedSchemes(size)) {
		result[leavesKey(foldedSheet(size, scheme))] = scheme
	}
	return result
}

// checkFindScheme checks that FindScheme finds the scheme of leaves, and none of any other list.
func checkFindScheme(t *testing.T, size sheetSize, known map[[64]impl.Leaf]string, leaves []impl.Leaf) {
	t.Helper()
	want, found := known[leavesKey(leaves)]
	wantCode := int64(impl.ErrNone)
	if !found {
		wantCode = impl.ErrNotFound
	}
	if got, code := impl.FindScheme(size.wide, size.high, leaves); got != want || code != wantCode {
		t.Errorf("FindScheme(%v, %v) = %q, %d; want %q, %d", size, leaves, got, code, want, wantCode)
	}
}

// wrongSchemes returns strings that are no schemes for a sheet: other letters, and schemes with
// one letter too many, too few, or for the other direction.
func wrongSchemes(size sheetSize) []string {
	wrong := []string{
		"LLLL", "TTTT", "LLLLTTT", "LLLTTTT", "LRLRLRLR", "BTBTBTBT",
		"l", "r", "t", "b", "X", "-", "1", " ", "\n", "\x00", "\xff", "\u013d", "\uff2c", "M", "V",
		strings.Repeat("L", 64), strings.Repeat("LT", 100000),
	}
	s := listedSchemes(size)[0]
	wrong = append(wrong, s+"L", s+"R", s+"T", s+"B", "L"+s, "T"+s, s+" ", " "+s, s+"\x00", s+"l", s+"X", s+"\n", s+"\u0301")
	for i := range s {
		wrong = append(wrong, s[:i]+s[i+1:])
		for _, other := range []string{"l", "r", "t", "b", " ", "X", "\x00", "\xff", "\u013d"} {
			wrong = append(wrong, s[:i]+other+s[i+1:])
		}
		others := "LR"
		if strings.Contains(others, s[i:i+1]) {
			others = "TB"
		}
		for _, other := range others {
			wrong = append(wrong, s[:i]+string(other)+s[i+1:])
		}
	}
	return wrong
}

// shortName returns the beginning of a string, for messages.
func shortName(s string) string {
	return s[:min(len(s), 30)]
}

func TestIsScheme(t *testing.T) {
	if impl.MaxSide != 8 {
		t.Errorf("the limit is %d", impl.MaxSide)
	}
	var all []string
	for length := range 8 {
		all = append(all, stringsOf("BLRT", length)...)
	}
	for _, size := range allSheets() {
		known := map[string]bool{}
		for _, scheme := range listedSchemes(size) {
			known[scheme] = true
		}
		found := 0
		for _, s := range all {
			got := impl.IsScheme(size.wide, size.high, s)
			if got != known[s] {
				t.Errorf("IsScheme(%v, %q) = %t", size, s, got)
			}
			if got {
				found++
			}
		}
		if found != len(known) {
			t.Errorf("%d of %d schemes for %v", found, len(known), size)
		}
		for _, s := range wrongSchemes(size) {
			if impl.IsScheme(size.wide, size.high, s) {
				t.Errorf("IsScheme(%v, %q) = true", size, shortName(s))
			}
		}
	}
}

func TestIsSchemeForNoSheet(t *testing.T) {
	for _, size := range notSheets() {
		for _, s := range []string{"", "L", "T", "LT", "LL", "TT", "LLL", "LLLL", "TTTT", "LLTT", "LLLT", "LTTT", "LLLTTT", "LLLLT", "LTTTT", "LLLLTTTT"} {
			if impl.IsScheme(size.wide, size.high, s) {
				t.Errorf("IsScheme(%v, %q) = true", size, s)
			}
		}
	}
}

func TestFoldSheet(t *testing.T) {
	for _, c := range []struct {
		size   sheetSize
		scheme string
		leaves []impl.Leaf
	}{
		{sheetSize{1, 1}, "", []impl.Leaf{{}}},
		{sheetSize{2, 1}, "L", []impl.Leaf{{X: 0, FlipX: true}, {X: 1}}},
		{sheetSize{2, 1}, "R", []impl.Leaf{{X: 1, FlipX: true}, {X: 0}}},
		{sheetSize{1, 2}, "T", []impl.Leaf{{Y: 0, FlipY: true}, {Y: 1}}},
		{sheetSize{1, 2}, "B", []impl.Leaf{{Y: 1, FlipY: true}, {Y: 0}}},
		{sheetSize{4, 1}, "LR", []impl.Leaf{{X: 3, FlipX: true}, {X: 0}, {X: 1, FlipX: true}, {X: 2}}},
		{sheetSize{1, 4}, "TB", []impl.Leaf{{Y: 3, FlipY: true}, {Y: 0}, {Y: 1, FlipY: true}, {Y: 2}}},
		{sheetSize{2, 2}, "LT", []impl.Leaf{{X: 1, FlipY: true}, {FlipX: true, FlipY: true}, {Y: 1, FlipX: true}, {X: 1, Y: 1}}},
		{sheetSize{2, 2}, "TL", []impl.Leaf{{Y: 1, FlipX: true}, {FlipX: true, FlipY: true}, {X: 1, FlipY: true}, {X: 1, Y: 1}}},
		{sheetSize{2, 2}, "BR", []impl.Leaf{{X: 1, FlipX: true}, {X: 1, Y: 1, FlipX: true, FlipY: true}, {Y: 1, FlipY: true}, {}}},
		{sheetSize{2, 2}, "RB", []impl.Leaf{{Y: 1, FlipY: true}, {X: 1, Y: 1, FlipX: true, FlipY: true}, {X: 1, FlipX: true}, {}}},
		{sheetSize{4, 2}, "LTL", []impl.Leaf{
			{X: 2, Y: 1, FlipX: true}, {X: 1, Y: 1}, {X: 1, FlipY: true}, {X: 2, FlipX: true, FlipY: true},
			{X: 3, FlipY: true}, {FlipX: true, FlipY: true}, {Y: 1, FlipX: true}, {X: 3, Y: 1},
		}},
	} {
		got, code := impl.FoldSheet(c.size.wide, c.size.high, c.scheme)
		if !slices.Equal(got, c.leaves) || code != impl.ErrNone {
			t.Errorf("FoldSheet(%v, %q) = %v, %d; want %v", c.size, c.scheme, got, code, c.leaves)
		}
	}
}

// TestSheetsByHand holds the functions against all schemes of all sheets, folded by hand, and also
// checks the guarantee: each cell becomes one leaf, and half of them lie face down.
func TestSheetsByHand(t *testing.T) {
	for _, size := range allSheets() {
		cells := size.wide * size.high
		for _, scheme := range listedSchemes(size) {
			want := foldedSheet(size, scheme)
			got, code := impl.FoldSheet(size.wide, size.high, scheme)
			if !slices.Equal(got, want) || code != impl.ErrNone {
				t.Fatalf("FoldSheet(%v, %q) = %v, %d; want %v", size, scheme, got, code, want)
			}
			var down int64
			seen := map[[2]int64]bool{}
			for place, leaf := range got {
				seen[[2]int64{leaf.X, leaf.Y}] = true
				if leaf.FlipX != leaf.FlipY {
					down++
				}
				n, code := impl.LeafOf(size.wide, size.high, scheme, leaf.X, leaf.Y)
				if n != int64(place) || code != impl.ErrNone {
					t.Errorf("LeafOf(%v, %q, %d, %d) = %d, %d; want %d", size, scheme, leaf.X, leaf.Y, n, code, place)
				}
			}
			if int64(len(seen)) != cells || int64(len(got)) != cells || down != cells/2 {
				t.Errorf("%v, %q: %d leaves of %d cells, %d of them face down", size, scheme, len(got), len(seen), down)
			}
			if n, code := impl.FacesDown(size.wide, size.high, scheme); n != down || code != impl.ErrNone {
				t.Errorf("FacesDown(%v, %q) = %d, %d; want %d", size, scheme, n, code, down)
			}
		}
	}
}

// TestSheetsOfOneRow checks that a sheet with one row or one column is folded as a strip is.
func TestSheetsOfOneRow(t *testing.T) {
	for _, folds := range allFolds()[:15] {
		stack, _ := foldedPiles(folds)
		row, _ := impl.FoldSheet(int64(len(stack)), 1, folds)
		column, _ := impl.FoldSheet(1, int64(len(stack)), strings.NewReplacer("L", "T", "R", "B").Replace(folds))
		if len(row) != len(stack) || len(column) != len(stack) {
			t.Fatalf("%q: %v and %v", folds, row, column)
		}
		for i, mark := range stack {
			cell := max(mark, -mark) - 1
			if row[i] != (impl.Leaf{X: cell, FlipX: mark < 0}) || column[i] != (impl.Leaf{Y: cell, FlipY: mark < 0}) {
				t.Errorf("%q: leaf %d is %v and %v; the mark is %d", folds, i, row[i], column[i], mark)
			}
		}
	}
}

func TestSchemes(t *testing.T) {
	for _, c := range []struct {
		size    sheetSize
		schemes []string
	}{
		{sheetSize{1, 1}, []string{""}},
		{sheetSize{2, 1}, []string{"L", "R"}},
		{sheetSize{1, 2}, []string{"B", "T"}},
		{sheetSize{4, 1}, []string{"LL", "LR", "RL", "RR"}},
		{sheetSize{1, 4}, []string{"BB", "BT", "TB", "TT"}},
		{sheetSize{2, 2}, []string{"BL", "BR", "LB", "LT", "RB", "RT", "TL", "TR"}},
		{sheetSize{4, 2}, []string{
			"BLL", "BLR", "BRL", "BRR", "LBL", "LBR", "LLB", "LLT", "LRB", "LRT", "LTL", "LTR",
			"RBL", "RBR", "RLB", "RLT", "RRB", "RRT", "RTL", "RTR", "TLL", "TLR", "TRL", "TRR",
		}},
	} {
		if got, code := impl.SchemesOf(c.size.wide, c.size.high); !slices.Equal(got, c.schemes) || code != impl.ErrNone {
			t.Errorf("SchemesOf(%v) = %q, %d; want %q", c.size, got, code, c.schemes)
		}
	}
	// By the numbers of folds across and along: their orders, and two letters for each of them.
	counts := [4][4]int64{{1, 2, 4, 8}, {2, 8, 24, 64}, {4, 24, 96, 320}, {8, 64, 320, 1280}}
	for _, size := range allSheets() {
		want := listedSchemes(size)
		if got, code := impl.SchemesOf(size.wide, size.high); !slices.Equal(got, want) || code != impl.ErrNone {
			t.Errorf("SchemesOf(%v) = %q, %d; want %q", size, got, code, want)
		}
		count := counts[foldsToOne(size.wide)][foldsToOne(size.high)]
		if got, code := impl.CountSchemes(size.wide, size.high); got != count || int64(len(want)) != count || code != impl.ErrNone {
			t.Errorf("CountSchemes(%v) = %d, %d; want %d, by hand %d", size, got, code, count, len(want))
		}
	}
}

func TestLeafOf(t *testing.T) {
	for _, c := range []struct {
		size   sheetSize
		scheme string
		x, y   int64
		want   int64
	}{
		{sheetSize{1, 1}, "", 0, 0, 0},
		{sheetSize{2, 2}, "LT", 1, 0, 0}, {sheetSize{2, 2}, "LT", 0, 0, 1}, {sheetSize{2, 2}, "LT", 0, 1, 2}, {sheetSize{2, 2}, "LT", 1, 1, 3},
		{sheetSize{2, 2}, "BR", 1, 0, 0}, {sheetSize{2, 2}, "BR", 0, 0, 3},
		{sheetSize{4, 2}, "LTL", 2, 1, 0}, {sheetSize{4, 2}, "LTL", 3, 1, 7},
		{sheetSize{8, 8}, "LLLTTT", 7, 7, 63}, {sheetSize{8, 8}, "RBRBRB", 0, 0, 63},
	} {
		if got, code := impl.LeafOf(c.size.wide, c.size.high, c.scheme, c.x, c.y); got != c.want || code != impl.ErrNone {
			t.Errorf("LeafOf(%v, %q, %d, %d) = %d, %d; want %d", c.size, c.scheme, c.x, c.y, got, code, c.want)
		}
	}
}

func TestLeafOfNoCell(t *testing.T) {
	for _, size := range allSheets() {
		schemes := listedSchemes(size)
		for _, scheme := range []string{schemes[0], schemes[len(schemes)/2], schemes[len(schemes)-1]} {
			for _, far := range []int64{-1, -2, -8, math.MinInt64, 8, 9, 64, 1 << 32, 1<<32 + 1, -1 << 32, math.MaxInt64} {
				for _, cell := range [][2]int64{{far, 0}, {0, far}, {size.wide - 1, far}, {far, size.high - 1}, {far, far}} {
					checkNoCell(t, size, scheme, cell)
				}
			}
			for _, cell := range [][2]int64{{size.wide, 0}, {0, size.high}, {size.wide, size.high - 1}, {size.wide - 1, size.high}, {size.wide, size.high}} {
				checkNoCell(t, size, scheme, cell)
			}
		}
	}
}

// checkNoCell checks that LeafOf finds no leaf of what is no cell.
func checkNoCell(t *testing.T, size sheetSize, scheme string, cell [2]int64) {
	t.Helper()
	if n, code := impl.LeafOf(size.wide, size.high, scheme, cell[0], cell[1]); n != 0 || code != impl.ErrRange {
		t.Errorf("LeafOf(%v, %q, %d, %d) = %d, %d", size, scheme, cell[0], cell[1], n, code)
	}
}

// TestMirrorScheme also checks that a mirrored scheme gives the leaves of the sheet whose columns
// are counted from the right to the left.
func TestMirrorScheme(t *testing.T) {
	for _, c := range []struct {
		size   sheetSize
		scheme string
		want   string
	}{
		{sheetSize{1, 1}, "", ""},
		{sheetSize{2, 1}, "L", "R"}, {sheetSize{2, 1}, "R", "L"},
		{sheetSize{1, 2}, "T", "T"}, {sheetSize{1, 2}, "B", "B"},
		{sheetSize{4, 2}, "LTR", "RTL"}, {sheetSize{8, 8}, "LBRTLB", "RBLTRB"}, {sheetSize{8, 4}, "BTLLR", "BTRRL"},
	} {
		if got, code := impl.MirrorScheme(c.size.wide, c.size.high, c.scheme); got != c.want || code != impl.ErrNone {
			t.Errorf("MirrorScheme(%v, %q) = %q, %d; want %q", c.size, c.scheme, got, code, c.want)
		}
	}
	for _, size := range allSheets() {
		for _, scheme := range listedSchemes(size) {
			mirrored, code := impl.MirrorScheme(size.wide, size.high, scheme)
			want := foldedSheet(size, scheme)
			for i := range want {
				want[i].X = size.wide - 1 - want[i].X
			}
			if got := foldedSheet(size, mirrored); !slices.Equal(got, want) || code != impl.ErrNone {
				t.Errorf("MirrorScheme(%v, %q) = %q, %d, which gives %v; want %v", size, scheme, mirrored, code, got, want)
			}
			if back, _ := impl.MirrorScheme(size.wide, size.high, mirrored); back != scheme {
				t.Errorf("MirrorScheme(%v, %q) = %q, and of that %q", size, scheme, mirrored, back)
			}
		}
	}
}

// TestFindScheme looks at the leaves of all schemes, and at what is left of some of them when two
// leaves are exchanged, or one is turned over, taken away, put down twice or is another one.
func TestFindScheme(t *testing.T) {
	for _, size := range allSheets() {
		known := schemesByLeaves(size)
		schemes := listedSchemes(size)
		// For small sheets all schemes are looked at, and for great ones three.
		step := 1
		if size.wide*size.high > 8 {
			step = len(schemes)/2 - 1
		}
		for i, scheme := range schemes {
			leaves := foldedSheet(size, scheme)
			checkFindScheme(t, size, known, leaves)
			if i%step == 0 {
				checkChangedLeaves(t, size, known, leaves)
			}
		}
	}
}

func checkChangedLeaves(t *testing.T, size sheetSize, known map[[64]impl.Leaf]string, leaves []impl.Leaf) {
	t.Helper()
	count := len(leaves)
	for i, leaf := range leaves {
		for _, other := range []impl.Leaf{
			{}, {X: leaf.X, Y: leaf.Y, FlipX: !leaf.FlipX, FlipY: leaf.FlipY}, {X: leaf.X, Y: leaf.Y, FlipX: leaf.FlipX, FlipY: !leaf.FlipY},
			{X: leaf.X, Y: leaf.Y, FlipX: !leaf.FlipX, FlipY: !leaf.FlipY}, {X: leaf.X + 1, Y: leaf.Y, FlipX: leaf.FlipX, FlipY: leaf.FlipY},
			{X: leaf.X, Y: leaf.Y - 1, FlipX: leaf.FlipX, FlipY: leaf.FlipY}, {X: math.MinInt64, Y: math.MaxInt64}, leaves[count-1-i],
		} {
			leaves[i] = other
			checkFindScheme(t, size, known, leaves)
		}
		leaves[i] = leaf
		for j := range i {
			leaves[i], leaves[j] = leaves[j], leaves[i]
			checkFindScheme(t, size, known, leaves)
			leaves[i], leaves[j] = leaves[j], leaves[i]
		}
		checkFindScheme(t, size, known, slices.Delete(slices.Clone(leaves), i, i+1))
		if count < 64 {
			checkFindScheme(t, size, known, slices.Insert(slices.Clone(leaves), i, leaf))
		}
	}
	turned := slices.Clone(leaves)
	slices.Reverse(turned)
	checkFindScheme(t, size, known, turned)
}

// TestFindSchemeOfSmallSheets looks at all lists of leaves of sheets of one, two and four cells
// that have each cell once.
func TestFindSchemeOfSmallSheets(t *testing.T) {
	for _, c := range []struct {
		size  sheetSize
		count int
	}{
		{sheetSize{1, 1}, 4}, {sheetSize{2, 1}, 32}, {sheetSize{1, 2}, 32},
		{sheetSize{2, 2}, 6144}, {sheetSize{4, 1}, 6144}, {sheetSize{1, 4}, 6144},
	} {
		known := schemesByLeaves(c.size)
		count := 0
		var check func(leaves []impl.Leaf, used int64)
		check = func(leaves []impl.Leaf, used int64) {
			if int64(len(leaves)) == c.size.wide*c.size.high {
				count++
				checkFindScheme(t, c.size, known, leaves)
				return
			}
			for cell := range c.size.wide * c.size.high {
				for flips := range 4 {
					if used>>cell&1 == 0 {
						leaf := impl.Leaf{X: cell % c.size.wide, Y: cell / c.size.wide, FlipX: flips&1 == 1, FlipY: flips&2 == 2}
						check(append(slices.Clone(leaves), leaf), used|1<<cell)
					}
				}
			}
		}
		check(nil, 0)
		if count != c.count {
			t.Errorf("%v: %d lists were looked at", c.size, count)
		}
	}
}

// TestFindSchemeOfOtherLists looks at empty lists, longer ones, and the leaves of other sheets.
func TestFindSchemeOfOtherLists(t *testing.T) {
	check := func(size sheetSize, leaves []impl.Leaf) {
		t.Helper()
		if s, code := impl.FindScheme(size.wide, size.high, leaves); s != "" || code != impl.ErrNotFound {
			t.Errorf("FindScheme(%v, %d leaves) = %q, %d", size, len(leaves), s, code)
		}
	}
	for _, size := range allSheets() {
		check(size, nil)
		check(size, []impl.Leaf{})
		check(size, make([]impl.Leaf, 65))
		check(size, make([]impl.Leaf, 10000))
		schemes := listedSchemes(size)
		own := foldedSheet(size, schemes[len(schemes)-1])
		check(size, append(slices.Clone(own), own...))
		check(size, append(slices.Clone(own), own[0]))
		check(size, append(slices.Clone(own), impl.Leaf{}))
		check(size, own[1:])
		check(size, own[:len(own)-1])
		for _, other := range allSheets() {
			if other == size {
				continue
			}
			check(size, foldedSheet(other, listedSchemes(other)[0]))
		}
	}
	// The last leaf alone, which is never moved, could be that of the scheme.
	check(sheetSize{2, 1}, []impl.Leaf{{X: 1}})
	check(sheetSize{1, 1}, []impl.Leaf{{FlipX: true, FlipY: true}})
	check(sheetSize{1, 1}, []impl.Leaf{{X: 1}})
	check(sheetSize{1, 1}, []impl.Leaf{{Y: -1}})
}

func TestFacesDown(t *testing.T) {
	for _, c := range []struct {
		size   sheetSize
		scheme string
		want   int64
	}{
		{sheetSize{1, 1}, "", 0}, {sheetSize{2, 1}, "L", 1}, {sheetSize{1, 2}, "B", 1}, {sheetSize{2, 2}, "LT", 2},
		{sheetSize{8, 1}, "LRL", 4}, {sheetSize{4, 8}, "LTTRB", 16}, {sheetSize{8, 8}, "RTLBLB", 32},
	} {
		if got, code := impl.FacesDown(c.size.wide, c.size.high, c.scheme); got != c.want || code != impl.ErrNone {
			t.Errorf("FacesDown(%v, %q) = %d, %d; want %d", c.size, c.scheme, got, code, c.want)
		}
	}
}

// TestNoSheet checks that ErrInvalid comes before all other errors.
func TestNoSheet(t *testing.T) {
	for _, size := range notSheets() {
		if got, code := impl.SchemesOf(size.wide, size.high); len(got) != 0 || code != impl.ErrInvalid {
			t.Errorf("SchemesOf(%v) = %q, %d", size, got, code)
		}
		if got, code := impl.CountSchemes(size.wide, size.high); got != 0 || code != impl.ErrInvalid {
			t.Errorf("CountSchemes(%v) = %d, %d", size, got, code)
		}
		for _, leaves := range [][]impl.Leaf{nil, {{}}, {{FlipX: true}, {X: 1}}, {{X: 9}}} {
			if got, code := impl.FindScheme(size.wide, size.high, leaves); got != "" || code != impl.ErrInvalid {
				t.Errorf("FindScheme(%v, %v) = %q, %d", size, leaves, got, code)
			}
		}
		for _, scheme := range []string{"", "L", "LL", "LLL", "LLLL", "T", "LT", "LLTT", "LLLTTT", "x", "\xff"} {
			checkSchemeErrors(t, size, scheme, impl.ErrInvalid)
		}
	}
}

func TestWrongSchemes(t *testing.T) {
	for _, size := range allSheets() {
		for _, scheme := range wrongSchemes(size) {
			checkSchemeErrors(t, size, scheme, impl.ErrRange)
		}
		if size != (sheetSize{1, 1}) {
			checkSchemeErrors(t, size, "", impl.ErrRange)
		}
	}
}

// checkSchemeErrors checks the error of all functions with a scheme. The cells are right and wrong.
func checkSchemeErrors(t *testing.T, size sheetSize, scheme string, want int64) {
	t.Helper()
	name := shortName(scheme)
	if got, code := impl.FoldSheet(size.wide, size.high, scheme); len(got) != 0 || code != want {
		t.Errorf("FoldSheet(%v, %q) = %v, %d", size, name, got, code)
	}
	if got, code := impl.MirrorScheme(size.wide, size.high, scheme); got != "" || code != want {
		t.Errorf("MirrorScheme(%v, %q) = %q, %d", size, name, got, code)
	}
	if got, code := impl.FacesDown(size.wide, size.high, scheme); got != 0 || code != want {
		t.Errorf("FacesDown(%v, %q) = %d, %d", size, name, got, code)
	}
	for _, cell := range [][2]int64{{0, 0}, {size.wide - 1, size.high - 1}, {size.wide, 0}, {0, size.high}, {-1, -1}} {
		if got, code := impl.LeafOf(size.wide, size.high, scheme, cell[0], cell[1]); got != 0 || code != want {
			t.Errorf("LeafOf(%v, %q, %v) = %d, %d", size, name, cell, got, code)
		}
	}
}

// TestLeavesAreNotShared checks that no function changes leaves or the memory behind them, and
// that results are new memory.
func TestLeavesAreNotShared(t *testing.T) {
	want := foldedSheet(sheetSize{2, 2}, "LT")
	backing := append(slices.Clone(want), impl.Leaf{X: 7}, impl.Leaf{X: 7})
	leaves := backing[:4]
	for range 2 {
		impl.FindScheme(2, 2, leaves)
		impl.FindScheme(4, 4, leaves)
		folded, _ := impl.FoldSheet(2, 2, "LT")
		schemes, _ := impl.SchemesOf(2, 1)
		if !slices.Equal(folded, want) || !slices.Equal(schemes, []string{"L", "R"}) {
			t.Errorf("FoldSheet and SchemesOf = %v, %q", folded, schemes)
		}
		for i := range folded {
			folded[i] = impl.Leaf{X: 9}
		}
		schemes[0], schemes[1] = "", ""
		_ = append(folded, impl.Leaf{X: 9})
		_ = append(schemes, "", "")
	}
	if !slices.Equal(backing, append(slices.Clone(want), impl.Leaf{X: 7}, impl.Leaf{X: 7})) {
		t.Errorf("the leaves have become %v", backing)
	}
}
