package tests

import (
	"fmt"
	"math"
	"slices"
	"strings"
	"sync"
	"testing"

	"loop.example/g00944/impl"
)

// unitsOf returns the set-up with some words, each the letter and the gap of a unit: "L10 B20".
func unitsOf(text string) []impl.Unit {
	var setup []impl.Unit
	for _, word := range strings.Fields(text) {
		var letter rune
		var gap int64
		if _, err := fmt.Sscanf(word, "%c%d", &letter, &gap); err != nil {
			panic(err)
		}
		setup = append(setup, unitByHand(letter, gap))
	}
	return setup
}

// unitByHand returns the unit of a letter with a gap.
func unitByHand(letter rune, gap int64) impl.Unit {
	unit := impl.Unit{Gap: gap}
	switch letter {
	case 'L':
		unit.Along, unit.Over = true, true
	case 'R':
		unit.Along = true
	case 'T':
		unit.Over = true
	case 'B':
	default:
		panic("no letter")
	}
	return unit
}

// setupsOf returns the set-ups with some texts, separated by commas; one without words has no units.
func setupsOf(text string) [][]impl.Unit {
	var setups [][]impl.Unit
	if text == "" {
		return nil
	}
	for _, part := range strings.Split(text, ",") {
		setups = append(setups, unitsOf(part))
	}
	return setups
}

// sizeByHand returns the size of a sheet after some folds: a side has been halved as often as it was
// folded.
func sizeByHand(size sheetSize, cell impl.Piece, folds string) impl.Piece {
	across, along := countLetters(folds, "LR"), countLetters(folds, "TB")
	return impl.Piece{Wide: size.wide * cell.Wide >> across, High: size.high * cell.High >> along}
}

// setupByHand returns the set-up of a scheme. Each gap is a side of the sheet after its fold.
func setupByHand(size sheetSize, cell impl.Piece, scheme string) []impl.Unit {
	var setup []impl.Unit
	for i, letter := range scheme {
		after := sizeByHand(size, cell, scheme[:i+1])
		gap := after.High
		if letter == 'L' || letter == 'R' {
			gap = after.Wide
		}
		setup = append(setup, unitByHand(letter, gap))
	}
	return setup
}

// someCells returns cells with sides that are small, great, even and odd.
func someCells() []impl.Piece {
	return []impl.Piece{
		{Wide: 1, High: 1}, {Wide: 1, High: 20000}, {Wide: 20000, High: 1}, {Wide: 20000, High: 20000},
		{Wide: 1480, High: 2100}, {Wide: 1049, High: 1485}, {Wide: 3, High: 3}, {Wide: 7, High: 2},
	}
}

// wrongGaps returns numbers that are no gap of a unit.
func wrongGaps() []int64 {
	return outOf(0, impl.MaxNumber)
}

// notSetups returns lists that are no set-ups: too long ones, and ones with a wrong gap in the
// first, a middle or the last unit, or in all of them.
func notSetups() [][]impl.Unit {
	seven := unitsOf("L1 R2 T3 B4 L5 R6 T7")
	list := [][]impl.Unit{
		seven, make([]impl.Unit, 7), make([]impl.Unit, 8), make([]impl.Unit, 64), make([]impl.Unit, 1000),
		append(slices.Clone(seven), unitByHand('L', -1)),
	}
	for _, gap := range wrongGaps() {
		for _, n := range []int{1, 2, 5, 6} {
			for _, at := range []int{0, n / 2, n - 1} {
				setup := slices.Clone(seven[:n])
				setup[at].Gap = gap
				list = append(list, setup)
			}
		}
		list = append(list, slices.Repeat([]impl.Unit{{Along: true, Gap: gap, Over: true}}, 6), []impl.Unit{{Gap: gap}})
	}
	return list
}

// greatSetups returns set-ups with the least and the greatest gaps.
func greatSetups() [][]impl.Unit {
	return setupsOf("L0,L1000000000,B0 T1000000000,R0 R0 R0 R0 R0 R0,T1000000000 T1000000000 T1000000000 B0 B0 B1000000000")
}

// changesByHand returns the changes from one set-up to another one: the units of the longer one but
// for those that the other one has at the same place.
func changesByHand(a []impl.Unit, b []impl.Unit) int64 {
	count := max(len(a), len(b))
	for i, unit := range a {
		if i < len(b) && unit.Along == b[i].Along && unit.Gap == b[i].Gap && unit.Over == b[i].Over {
			count--
		}
	}
	return int64(count)
}

// effortByPlaces returns the effort of an order, place by place of the machine: how often the text of
// what stands there becomes another one.
func effortByPlaces(setups [][]impl.Unit, order []int64) int64 {
	var effort int64
	for place := range 6 {
		stands := ""
		for _, job := range order {
			text := ""
			if place < len(setups[job]) {
				text = fmt.Sprint(setups[job][place])
			}
			if text != stands {
				effort++
			}
			stands = text
		}
	}
	return effort
}

// bestOrdersByHand returns all orders with the least effort, the lexicographically smallest one
// first, and this effort.
func bestOrdersByHand(setups [][]impl.Unit) ([][]int64, int64) {
	var best [][]int64
	least := int64(math.MaxInt64)
	for _, order := range allOrders(len(setups)) {
		effort := effortByPlaces(setups, order)
		if effort < least {
			best, least = nil, effort
		}
		if effort == least {
			best = append(best, order)
		}
	}
	return best, least
}

// setupsFrom returns n set-ups with up to six units and gaps of up to most, which a seed tells.
func setupsFrom(seed int64, n int, most int64) [][]impl.Unit {
	lengths := lengthsFrom(seed, n, 0, 6)
	setups := make([][]impl.Unit, n)
	for i := range setups {
		length := int(lengths[i])
		letters := lengthsFrom(seed*31+int64(i), length, 0, 3)
		gaps := lengthsFrom(seed*77+int64(i), length, 0, most)
		for j := range length {
			setups[i] = append(setups[i], unitByHand(rune("BLRT"[letters[j]]), gaps[j]))
		}
	}
	return setups
}

func checkSetup(t *testing.T, size sheetSize, cell impl.Piece, scheme string, want []impl.Unit) {
	t.Helper()
	setup, code := impl.SetupOf(size.wide, size.high, cell, scheme)
	if !slices.Equal(setup, want) || code != impl.ErrNone {
		t.Fatalf("SetupOf(%v, %v, %q) = %v, %d; want %v", size, cell, scheme, setup, code, want)
	}
}

func checkFolded(t *testing.T, size sheetSize, cell impl.Piece, scheme string, k int64, want impl.Piece) {
	t.Helper()
	if got, code := impl.FoldedSize(size.wide, size.high, cell, scheme, k); got != want || code != impl.ErrNone {
		t.Fatalf("FoldedSize(%v, %v, %q, %d) = %v, %d; want %v", size, cell, scheme, k, got, code, want)
	}
}

// checkNoSetup checks that a scheme has neither a set-up nor sizes, with any number of folds.
func checkNoSetup(t *testing.T, size sheetSize, cell impl.Piece, scheme string, want int64) {
	t.Helper()
	if setup, code := impl.SetupOf(size.wide, size.high, cell, scheme); len(setup) != 0 || code != want {
		t.Errorf("SetupOf(%v, %v, %q) = %v, %d; want %d", size, cell, shortName(scheme), setup, code, want)
	}
	for _, k := range []int64{-1, 0, 1, int64(len(scheme)), int64(len(scheme)) + 1, math.MinInt64, math.MaxInt64} {
		if got, code := impl.FoldedSize(size.wide, size.high, cell, scheme, k); got != (impl.Piece{}) || code != want {
			t.Errorf("FoldedSize(%v, %v, %q, %d) = %v, %d; want %d", size, cell, shortName(scheme), k, got, code, want)
		}
	}
}

func checkChanges(t *testing.T, a []impl.Unit, b []impl.Unit, want int64) {
	t.Helper()
	for _, pair := range [][2][]impl.Unit{{a, b}, {b, a}} {
		if n, code := impl.CountChanges(pair[0], pair[1]); n != want || code != impl.ErrNone {
			t.Fatalf("CountChanges(%v, %v) = %d, %d; want %d", pair[0], pair[1], n, code, want)
		}
	}
}

func checkEffort(t *testing.T, setups [][]impl.Unit, order []int64, want int64) {
	t.Helper()
	if n, code := impl.EffortOf(setups, order); n != want || code != impl.ErrNone {
		t.Fatalf("EffortOf(%v, %v) = %d, %d; want %d", setups, order, n, code, want)
	}
}

func checkNoEffort(t *testing.T, setups [][]impl.Unit, order []int64, want int64) {
	t.Helper()
	if n, code := impl.EffortOf(setups, order); n != 0 || code != want {
		t.Errorf("EffortOf(%d set-ups, %v) = %d, %d; want %d", len(setups), order[:min(len(order), 9)], n, code, want)
	}
}

func checkBestOrder(t *testing.T, setups [][]impl.Unit, want []int64, wantEffort int64) {
	t.Helper()
	order, n, code := impl.BestJobOrder(setups)
	if !slices.Equal(order, want) || n != wantEffort || code != impl.ErrNone {
		t.Fatalf("BestJobOrder(%v) = %v, %d, %d; want %v, %d", setups, order, n, code, want, wantEffort)
	}
	checkEffort(t, setups, order, wantEffort)
}

// checkSearchedOrder checks the best order of jobs by a search of all orders, and returns how many
// have the least effort.
func checkSearchedOrder(t *testing.T, setups [][]impl.Unit) int {
	t.Helper()
	best, least := bestOrdersByHand(setups)
	checkBestOrder(t, setups, best[0], least)
	return len(best)
}

func checkNoBestOrder(t *testing.T, setups [][]impl.Unit, want int64) {
	t.Helper()
	if order, n, code := impl.BestJobOrder(setups); len(order) != 0 || n != 0 || code != want {
		t.Errorf("BestJobOrder(%d set-ups) = %v, %d, %d; want %d", len(setups), order, n, code, want)
	}
}

func TestSetupOf(t *testing.T) {
	for _, c := range []struct {
		size   sheetSize
		cell   impl.Piece
		scheme string
		want   string
	}{
		{sheetSize{1, 1}, impl.Piece{Wide: 1480, High: 2100}, "", ""},
		{sheetSize{2, 1}, impl.Piece{Wide: 1480, High: 2100}, "L", "L1480"},
		{sheetSize{2, 1}, impl.Piece{Wide: 1480, High: 2100}, "R", "R1480"},
		{sheetSize{1, 2}, impl.Piece{Wide: 1480, High: 2100}, "T", "T2100"},
		{sheetSize{1, 2}, impl.Piece{Wide: 1480, High: 2100}, "B", "B2100"},
		{sheetSize{4, 2}, impl.Piece{Wide: 1480, High: 2100}, "LTR", "L2960 T2100 R1480"},
		{sheetSize{4, 2}, impl.Piece{Wide: 1480, High: 2100}, "BRL", "B2100 R2960 L1480"},
		{sheetSize{4, 4}, impl.Piece{Wide: 5, High: 3}, "LRTB", "L10 R5 T6 B3"},
		{sheetSize{4, 4}, impl.Piece{Wide: 5, High: 3}, "BTRL", "B6 T3 R10 L5"},
		{sheetSize{4, 4}, impl.Piece{Wide: 5, High: 3}, "TLBR", "T6 L10 B3 R5"},
		{sheetSize{8, 1}, impl.Piece{Wide: 1, High: 20000}, "RRL", "R4 R2 L1"},
		{sheetSize{1, 8}, impl.Piece{Wide: 20000, High: 1}, "BBT", "B4 B2 T1"},
		{sheetSize{8, 8}, impl.Piece{Wide: 1, High: 1}, "LTLTLT", "L4 T4 L2 T2 L1 T1"},
		{sheetSize{8, 8}, impl.Piece{Wide: 20000, High: 20000}, "RRRBBB", "R80000 R40000 R20000 B80000 B40000 B20000"},
		{sheetSize{8, 8}, impl.Piece{Wide: 20000, High: 19999}, "TLBRTL", "T79996 L80000 B39998 R40000 T19999 L20000"},
	} {
		checkSetup(t, c.size, c.cell, c.scheme, unitsOf(c.want))
		if scheme, code := impl.SchemeOfSetup(unitsOf(c.want)); scheme != c.scheme || code != impl.ErrNone {
			t.Errorf("SchemeOfSetup(%s) = %q, %d; want %q", c.want, scheme, code, c.scheme)
		}
	}
}

// TestFieldsOfUnits checks the fields of the unit of each letter one by one.
func TestFieldsOfUnits(t *testing.T) {
	cell := impl.Piece{Wide: 30, High: 40}
	for letter, want := range map[string]impl.Unit{
		"L": {Along: true, Gap: 30, Over: true},
		"R": {Along: true, Gap: 30, Over: false},
		"T": {Along: false, Gap: 40, Over: true},
		"B": {Along: false, Gap: 40, Over: false},
	} {
		size := sheetSize{2, 1}
		if !want.Along {
			size = sheetSize{1, 2}
		}
		checkSetup(t, size, cell, letter, []impl.Unit{want})
	}
}

// TestSchemesOfAllSetups checks the set-ups of all schemes of all sheets, that the schemes are found
// from them, and that no two schemes of a sheet share one.
func TestSchemesOfAllSetups(t *testing.T) {
	for _, size := range allSheets() {
		for _, cell := range someCells() {
			known := map[[6]impl.Unit]bool{}
			schemes := listedSchemes(size)
			for _, scheme := range schemes {
				setup, code := impl.SetupOf(size.wide, size.high, cell, scheme)
				if want := setupByHand(size, cell, scheme); !slices.Equal(setup, want) || code != impl.ErrNone {
					t.Fatalf("SetupOf(%v, %v, %q) = %v, %d; want %v", size, cell, scheme, setup, code, want)
				}
				if found, code := impl.SchemeOfSetup(setup); found != scheme || code != impl.ErrNone {
					t.Fatalf("SchemeOfSetup(%v) = %q, %d; want %q", setup, found, code, scheme)
				}
				var key [6]impl.Unit
				copy(key[:], setup)
				known[key] = true
			}
			if len(known) != len(schemes) {
				t.Errorf("%d schemes for %v have %d set-ups", len(schemes), size, len(known))
			}
		}
	}
}

// TestSchemesWithoutSheets checks that the letters are told for all lists of letters, with and
// without a sheet that has them as a scheme, and whatever the gaps are.
func TestSchemesWithoutSheets(t *testing.T) {
	for length := range 7 {
		for _, letters := range stringsOf("BLRT", length) {
			for _, gaps := range [][]int64{{0, 0, 0, 0, 0, 0}, {1000000000, 0, 1, 999999999, 2, 1000000000}, {5, 80, 5, 5, 7, 3}} {
				var setup []impl.Unit
				for i, letter := range letters {
					setup = append(setup, unitByHand(letter, gaps[i]))
				}
				if scheme, code := impl.SchemeOfSetup(setup); scheme != letters || code != impl.ErrNone {
					t.Fatalf("SchemeOfSetup(%v) = %q, %d; want %q", setup, scheme, code, letters)
				}
			}
		}
	}
}

func TestFoldedSize(t *testing.T) {
	cell := impl.Piece{Wide: 20000, High: 3}
	for k, want := range []impl.Piece{{Wide: 160000, High: 12}, {Wide: 160000, High: 6}, {Wide: 80000, High: 6}, {Wide: 40000, High: 6}, {Wide: 40000, High: 3}, {Wide: 20000, High: 3}} {
		checkFolded(t, sheetSize{8, 4}, cell, "BRLTL", int64(k), want)
	}
	checkFolded(t, sheetSize{1, 1}, cell, "", 0, cell)
	checkFolded(t, sheetSize{2, 1}, cell, "R", 0, impl.Piece{Wide: 40000, High: 3})
	checkFolded(t, sheetSize{8, 8}, impl.Piece{Wide: 20000, High: 20000}, "TTTLLL", 0, impl.Piece{Wide: 160000, High: 160000})
}

// TestSizesAgreeWithGaps checks the sizes after all numbers of folds of all schemes: a fold leaves of
// a side its gap, half of what it was, and of the other side everything; in the end a cell is left.
func TestSizesAgreeWithGaps(t *testing.T) {
	for _, size := range allSheets() {
		for _, cell := range someCells() {
			for _, scheme := range listedSchemes(size) {
				checkSizes(t, size, cell, scheme)
			}
		}
	}
}

// checkSizes checks the sizes of a sheet after all numbers of folds against the set-up.
func checkSizes(t *testing.T, size sheetSize, cell impl.Piece, scheme string) {
	t.Helper()
	setup, _ := impl.SetupOf(size.wide, size.high, cell, scheme)
	before := impl.Piece{Wide: size.wide * cell.Wide, High: size.high * cell.High}
	checkFolded(t, size, cell, scheme, 0, before)
	for k := 1; k <= len(scheme); k++ {
		checkFolded(t, size, cell, scheme, int64(k), sizeByHand(size, cell, scheme[:k]))
		after, _ := impl.FoldedSize(size.wide, size.high, cell, scheme, int64(k))
		unit := setup[k-1]
		want, half := impl.Piece{Wide: before.Wide, High: unit.Gap}, before.High
		if unit.Along {
			want, half = impl.Piece{Wide: unit.Gap, High: before.High}, before.Wide
		}
		if after != want || 2*unit.Gap != half {
			t.Fatalf("the unit %v of %q leaves %v of %v, for %v and %v", unit, scheme, after, before, size, cell)
		}
		before = after
	}
	if before != cell {
		t.Fatalf("%q leaves %v of %v and %v", scheme, before, size, cell)
	}
}

// TestFoldsOutOfRange checks numbers of folds that a scheme or a set-up does not have.
func TestFoldsOutOfRange(t *testing.T) {
	for _, size := range allSheets() {
		for _, scheme := range someSchemes(size) {
			cell := impl.Piece{Wide: 9, High: 4}
			setup, _ := impl.SetupOf(size.wide, size.high, cell, scheme)
			for _, k := range outOf(0, int64(len(scheme))) {
				if got, code := impl.FoldedSize(size.wide, size.high, cell, scheme, k); got != (impl.Piece{}) || code != impl.ErrRange {
					t.Errorf("FoldedSize(%v, %v, %q, %d) = %v, %d", size, cell, scheme, k, got, code)
				}
				if n, code := impl.LayersAfter(setup, k); n != 0 || code != impl.ErrRange {
					t.Errorf("LayersAfter(%v, %d) = %d, %d", setup, k, n, code)
				}
			}
		}
	}
}

// TestLayersAfter checks the layers of set-ups of all lengths, of sheets and of none.
func TestLayersAfter(t *testing.T) {
	layers := []int64{1, 2, 4, 8, 16, 32, 64}
	for _, all := range append(greatSetups(), unitsOf("L4 T4 L2 T2 L1 T1"), unitsOf("B1 B1 B1 B1 B1 B1"), unitsOf("R3 L7 R9")) {
		for n := range len(all) + 1 {
			for k, want := range layers {
				if k > n {
					want = 0
				}
				got, code := impl.LayersAfter(all[:n], int64(k))
				if got != want || (code == impl.ErrNone) != (k <= n) || (code == impl.ErrRange) != (k > n) {
					t.Errorf("LayersAfter(%v, %d) = %d, %d", all[:n], k, got, code)
				}
			}
		}
	}
}

// TestLayersOfFoldedSheets checks that the layers are the cells of the sheet over those that are left.
func TestLayersOfFoldedSheets(t *testing.T) {
	cell := impl.Piece{Wide: 12, High: 17}
	for _, size := range allSheets() {
		for _, scheme := range someSchemes(size) {
			setup, _ := impl.SetupOf(size.wide, size.high, cell, scheme)
			for k := range int64(len(scheme)) + 1 {
				left, _ := impl.FoldedSize(size.wide, size.high, cell, scheme, k)
				want := size.wide * size.high * cell.Wide * cell.High / (left.Wide * left.High)
				if n, code := impl.LayersAfter(setup, k); n != want || code != impl.ErrNone {
					t.Errorf("LayersAfter(%v, %d) = %d, %d; want %d", setup, k, n, code, want)
				}
			}
		}
	}
}

func TestCountChanges(t *testing.T) {
	for _, c := range []struct {
		a, b string
		want int64
	}{
		{"", "", 0},
		{"", "L1", 1},
		{"", "B0", 1},
		{"B0", "B0 B0", 1},
		{"", "L4 T4 L2 T2 L1 T1", 6},
		{"L1", "L1", 0},
		{"L1", "R1", 1},
		{"L1", "T1", 1},
		{"L1", "B1", 1},
		{"R1", "B1", 1},
		{"T1", "B1", 1},
		{"R1", "T1", 1},
		{"L1", "L2", 1},
		{"L0", "L1000000000", 1},
		{"L10 B20", "L10", 1},
		{"L10 B20", "B20", 2},
		{"L10 B20", "B20 L10", 2},
		{"L10 B20 R5", "R5 L10 B20", 3},
		{"L10 B20 R5", "L10 T20 R5", 1},
		{"L10 B20 R5", "R10 B20 R5", 1},
		{"L10 B20 R5", "L10 B20 R6", 1},
		{"L10 B20 R5", "L10 B21 R5", 1},
		{"L10 B20 R5", "L11 B20 R5", 1},
		{"L10 B20 R5", "L10 B20 B5", 1},
		{"L10 B20 R5", "T10 B20 L5", 2},
		{"L4 T4 L2 T2 L1 T1", "L4 T4 L2 T2 L1 T1", 0},
		{"L4 T4 L2 T2 L1 T1", "L4 T4 L2 T2 L1 B1", 1},
		{"L4 T4 L2 T2 L1 T1", "R4 T4 L2 T2 L1 T1", 1},
		{"L4 T4 L2 T2 L1 T1", "L4 T4 L2 T2 L1", 1},
		{"L4 T4 L2 T2 L1 T1", "T4 L2 T2 L1 T1", 6},
		{"L4 T4 L2 T2 L1 T1", "T4 L4 T2 L2 T1 L1", 6},
		{"L4 T4 L2 T2 L1 T1", "L4 B4 L2 B2 L1 B1", 3},
		{"L1 L1 L1 L1 L1 L1", "L1 L1", 4},
	} {
		checkChanges(t, unitsOf(c.a), unitsOf(c.b), c.want)
	}
}

// TestChangesOfAllPairs checks all pairs of short set-ups with a few units.
func TestChangesOfAllPairs(t *testing.T) {
	units := unitsOf("L0 L3 R3 T3 B0")
	var setups [][]impl.Unit
	for length := range 4 {
		for _, list := range listsFrom(0, int64(len(units))-1, length) {
			var setup []impl.Unit
			for _, i := range list {
				setup = append(setup, units[i])
			}
			setups = append(setups, setup)
		}
	}
	for i, a := range setups {
		for _, b := range setups[:i+1] {
			want := changesByHand(a, b)
			checkChanges(t, a, b, want)
			if (want == 0) != slices.Equal(a, b) {
				t.Fatalf("%d changes from %v to %v", want, a, b)
			}
		}
	}
}

// TestChangesOfManyPairs checks pairs of long set-ups, with gaps that are often and seldom equal.
func TestChangesOfManyPairs(t *testing.T) {
	for seed := range int64(300) {
		setups := append(setupsFrom(seed, 6, seed%5), greatSetups()...)
		for _, a := range setups {
			for _, b := range setups {
				checkChanges(t, a, b, changesByHand(a, b))
			}
		}
	}
}

func TestEffortOf(t *testing.T) {
	for _, c := range []struct {
		setups string
		order  []int64
		want   int64
	}{
		{"", nil, 0},
		{"", []int64{}, 0},
		{"L10 B20", []int64{0}, 2},
		{"L4 T4 L2 T2 L1 T1", []int64{0}, 6},
		{"L10 B20,L10 B20", []int64{0, 1}, 2},
		{"L10 B20,L10 B20", []int64{1, 0}, 2},
		{"L10 B20,B5,L10", []int64{0, 1, 2}, 5},
		{"L10 B20,B5,L10", []int64{0, 2, 1}, 4},
		{"L10 B20,B5,L10", []int64{2, 0, 1}, 4},
		{"L10 B20,B5,L10", []int64{1, 2, 0}, 3},
		{"L10 B20,,L10 B20", []int64{0, 1, 2}, 6},
		{"L10 B20,,L10 B20", []int64{1, 0, 2}, 2},
		{"L10 B20,,L10 B20", []int64{2, 0, 1}, 4},
		{",,", []int64{2, 1, 0}, 0},
		{"L1,L2,L3,L4,L5,L6,L7", []int64{6, 5, 4, 3, 2, 1, 0}, 7},
		{"L1,L2,L1,L2,L1,L2,L1", []int64{0, 1, 2, 3, 4, 5, 6}, 7},
		{"L1,L2,L1,L2,L1,L2,L1", []int64{0, 2, 4, 6, 1, 3, 5}, 2},
	} {
		checkEffort(t, setupsOf(c.setups), c.order, c.want)
	}
}

// TestEffortsAreSumsOfChanges checks the efforts of all orders of some jobs against the changes from
// set-up to set-up, and against those of each place of the machine.
func TestEffortsAreSumsOfChanges(t *testing.T) {
	for seed := range int64(60) {
		for n := range 6 {
			setups := setupsFrom(seed, n, seed%4)
			for _, order := range allOrders(n) {
				var sum int64
				var before []impl.Unit
				for _, job := range order {
					changes, _ := impl.CountChanges(before, setups[job])
					sum += changes
					before = setups[job]
				}
				if want := effortByPlaces(setups, order); sum != want {
					t.Fatalf("the changes of %v in the order %v are %d; want %d", setups, order, sum, want)
				}
				checkEffort(t, setups, order, sum)
			}
		}
	}
}

func TestBestJobOrder(t *testing.T) {
	for _, c := range []struct {
		setups string
		want   []int64
		effort int64
	}{
		{"", nil, 0},
		{"L10 B20", []int64{0}, 2},
		{"L10 B20,", []int64{1, 0}, 2},
		{",L10 B20", []int64{0, 1}, 2},
		{",,,,,,", []int64{0, 1, 2, 3, 4, 5, 6}, 0},
		{"L10 B20,B5,L10", []int64{1, 2, 0}, 3},
		{"L1,L2", []int64{0, 1}, 2},
		{"L1,L2,L1", []int64{0, 2, 1}, 2},
		{"L1,L2,L1,L2,L1,L2,L1", []int64{0, 2, 4, 6, 1, 3, 5}, 2},
		{"L2 T2,L1,L2 T2,L1,L2 T2", []int64{1, 3, 0, 2, 4}, 3},
		{"L4 T4 L2,L4 T4,L4", []int64{2, 1, 0}, 3},
		{"L4 T4 L2 T2 L1 T1,L4 T4 L2 T2 L1,L4 T4 L2 T2,L4 T4 L2,L4 T4,L4,", []int64{6, 5, 4, 3, 2, 1, 0}, 6},
		{",L4,L4 T4,L4 T4 L2,L4 T4 L2 T2,L4 T4 L2 T2 L1,L4 T4 L2 T2 L1 T1", []int64{0, 1, 2, 3, 4, 5, 6}, 6},
		{"L1,L2,L3,L4,L5,L6,L7", []int64{0, 1, 2, 3, 4, 5, 6}, 7},
		{"L1 T1,R1 T1,L1 B1,R1 B1", []int64{0, 1, 3, 2}, 5},
		{"L1 T1,R1 B1,L1 B1,R1 T1", []int64{0, 2, 1, 3}, 5},
		{"L1000000000 B0,L1000000000 B1000000000,L0 B0", []int64{1, 0, 2}, 4},
	} {
		checkBestOrder(t, setupsOf(c.setups), c.want, c.effort)
	}
}

// TestBestOfAllOrders checks all lists of up to four jobs with a few set-ups.
func TestBestOfAllOrders(t *testing.T) {
	few := setupsOf(",L1,L1 B1,R1 B1,L2 B1 T1,L1 B1 T1")
	several := 0
	for length := range 5 {
		for _, list := range listsFrom(0, int64(len(few))-1, length) {
			var setups [][]impl.Unit
			for _, i := range list {
				setups = append(setups, few[i])
			}
			if checkSearchedOrder(t, setups) > 1 {
				several++
			}
		}
	}
	if several == 0 {
		t.Error("no jobs have several best orders")
	}
}

// TestBestOfManyOrders checks jobs of all numbers: with equal set-ups, with different ones whose
// efforts are equal, and with a best order alone.
func TestBestOfManyOrders(t *testing.T) {
	alone, several := 0, 0
	for n := range 8 {
		for seed := range int64(60) {
			setups := setupsFrom(seed*8+int64(n), n, 1+seed%3)
			if seed%4 == 3 && n > 2 {
				setups[n-1] = setups[0]
			}
			if n == 7 && seed >= 12 {
				break
			}
			if checkSearchedOrder(t, setups) == 1 {
				alone++
			} else {
				several++
			}
		}
	}
	if alone < 20 || several < 20 {
		t.Errorf("%d jobs have one best order, %d several", alone, several)
	}
}

// TestBestOrderOfSchemes checks the jobs of schemes of one sheet, which often share their last units.
func TestBestOrderOfSchemes(t *testing.T) {
	for _, size := range []sheetSize{{2, 2}, {4, 2}, {8, 8}} {
		schemes := listedSchemes(size)
		for from := 0; from < len(schemes); from += len(schemes)/5 + 1 {
			var setups [][]impl.Unit
			for i := range 6 {
				scheme := schemes[(from+i*7)%len(schemes)]
				setups = append(setups, setupByHand(size, impl.Piece{Wide: 30, High: 40}, scheme))
			}
			checkSearchedOrder(t, setups)
		}
	}
}

// TestNoCells checks sheets and cells that are none, also with schemes that are none.
func TestNoCells(t *testing.T) {
	for _, size := range notSheets() {
		for _, scheme := range []string{"", "L", "TLBR", "LLLTTT", "LLLTTTT", "x"} {
			checkNoSetup(t, size, impl.Piece{Wide: 5, High: 6}, scheme, impl.ErrInvalid)
			checkNoSetup(t, size, impl.Piece{}, scheme, impl.ErrInvalid)
		}
	}
	for _, cell := range notPieces() {
		for _, size := range allSheets() {
			for _, scheme := range []string{listedSchemes(size)[0], "LLLLTTT", "x", "\xff"} {
				checkNoSetup(t, size, cell, scheme, impl.ErrInvalid)
			}
		}
	}
}

// TestSetupsOfWrongSchemes checks texts that are no schemes for their sheets.
func TestSetupsOfWrongSchemes(t *testing.T) {
	for _, size := range allSheets() {
		for _, scheme := range wrongSchemes(size) {
			checkNoSetup(t, size, impl.Piece{Wide: 20000, High: 1}, scheme, impl.ErrRange)
		}
	}
	checkNoSetup(t, sheetSize{4, 4}, impl.Piece{Wide: 1, High: 1}, "", impl.ErrRange)
	checkNoSetup(t, sheetSize{1, 1}, impl.Piece{Wide: 1, High: 1}, "L", impl.ErrRange)
	checkNoSetup(t, sheetSize{2, 1}, impl.Piece{Wide: 1, High: 1}, "T", impl.ErrRange)
	checkNoSetup(t, sheetSize{8, 8}, impl.Piece{Wide: 1, High: 1}, "LLLTTTL", impl.ErrRange)
}

// TestNoSetups checks that lists that are no set-ups are told first, wherever they stand and
// whatever else is wrong.
func TestNoSetups(t *testing.T) {
	right := unitsOf("L4 T4 L2 T2 L1 T1")
	for _, wrong := range notSetups() {
		if scheme, code := impl.SchemeOfSetup(wrong); scheme != "" || code != impl.ErrInvalid {
			t.Errorf("SchemeOfSetup(%v) = %q, %d", wrong, scheme, code)
		}
		for _, k := range []int64{-1, 0, 1, 6, 7, 8, math.MinInt64, math.MaxInt64} {
			if n, code := impl.LayersAfter(wrong, k); n != 0 || code != impl.ErrInvalid {
				t.Errorf("LayersAfter(%v, %d) = %d, %d", wrong, k, n, code)
			}
		}
		for _, pair := range [][2][]impl.Unit{{wrong, right}, {right, wrong}, {wrong, wrong}, {wrong, nil}, {nil, wrong}} {
			if n, code := impl.CountChanges(pair[0], pair[1]); n != 0 || code != impl.ErrInvalid {
				t.Errorf("CountChanges(%v, %v) = %d, %d", pair[0], pair[1], n, code)
			}
		}
		for _, n := range []int{1, 2, 7, 8, 20} {
			for _, at := range []int{0, n / 2, n - 1} {
				setups := slices.Repeat([][]impl.Unit{right}, n)
				setups[at] = wrong
				for _, order := range [][]int64{firstOrder(n), lastOrder(n), nil, {0, 0}, {-1}, firstOrder(n + 1), firstOrder(65)} {
					checkNoEffort(t, setups, order, impl.ErrInvalid)
				}
				checkNoBestOrder(t, setups, impl.ErrInvalid)
			}
		}
	}
}

// TestGreatestSetups checks that the greatest gaps and numbers of units are those of a set-up.
func TestGreatestSetups(t *testing.T) {
	setups := greatSetups()
	for _, setup := range setups {
		if scheme, code := impl.SchemeOfSetup(setup); len(scheme) != len(setup) || code != impl.ErrNone {
			t.Errorf("SchemeOfSetup(%v) = %q, %d", setup, scheme, code)
		}
		checkChanges(t, setup, setup, 0)
		checkChanges(t, setup, nil, int64(len(setup)))
		checkBestOrder(t, [][]impl.Unit{setup}, []int64{0}, int64(len(setup)))
	}
	checkSearchedOrder(t, setups)
}

// TestTooManySetups checks numbers of jobs at the limit and beyond it.
func TestTooManySetups(t *testing.T) {
	if impl.MaxSetups != 7 {
		t.Errorf("the limit is %d", impl.MaxSetups)
	}
	for _, setup := range [][]impl.Unit{nil, unitsOf("L1"), unitsOf("L4 T4 L2 T2 L1 T1")} {
		seven := slices.Repeat([][]impl.Unit{setup}, 7)
		checkEffort(t, seven, lastOrder(7), int64(len(setup)))
		checkBestOrder(t, seven, firstOrder(7), int64(len(setup)))
		for _, n := range []int{8, 9, 12, 13, 64, 65, 1000} {
			many := slices.Repeat([][]impl.Unit{setup}, n)
			for _, order := range [][]int64{firstOrder(n), lastOrder(n), firstOrder(7), nil} {
				checkNoEffort(t, many, order, impl.ErrRange)
			}
			checkNoBestOrder(t, many, impl.ErrRange)
		}
	}
}

// TestWrongJobOrders checks lists that are no order of as many jobs as there are set-ups.
func TestWrongJobOrders(t *testing.T) {
	for n := range 8 {
		setups := setupsFrom(int64(n), n, 3)
		for m := range 10 {
			if m != n {
				checkNoEffort(t, setups, firstOrder(m), impl.ErrRange)
				checkNoEffort(t, setups, lastOrder(m), impl.ErrRange)
			}
		}
		for _, order := range notOrders() {
			checkNoEffort(t, setups, order, impl.ErrRange)
		}
		for at := range n {
			wrong := outOf(0, int64(n)-1)
			if n > 1 {
				wrong = append(wrong, int64((at+1)%n))
			}
			for _, job := range wrong {
				order := firstOrder(n)
				order[at] = job
				checkNoEffort(t, setups, order, impl.ErrRange)
			}
		}
	}
}

// TestAllShortJobOrders checks all short lists as orders of three jobs.
func TestAllShortJobOrders(t *testing.T) {
	setups := setupsOf("L10 B20,B5,L10")
	orders := 0
	for length := range 5 {
		for _, list := range listsFrom(-1, 3, length) {
			sorted := slices.Sorted(slices.Values(list))
			if !slices.Equal(sorted, []int64{0, 1, 2}) {
				checkNoEffort(t, setups, list, impl.ErrRange)
				continue
			}
			orders++
			checkEffort(t, setups, list, effortByPlaces(setups, list))
		}
	}
	if orders != 6 {
		t.Errorf("%d orders", orders)
	}
}

// TestSameOrderEveryTime checks that repeated and simultaneous calls agree.
func TestSameOrderEveryTime(t *testing.T) {
	for seed := range int64(3) {
		setups := setupsFrom(seed, 6, 1)
		best, least := bestOrdersByHand(setups)
		var calls sync.WaitGroup
		for range 8 {
			calls.Go(func() {
				for range 5 {
					if order, n, code := impl.BestJobOrder(setups); !slices.Equal(order, best[0]) || n != least || code != impl.ErrNone {
						t.Errorf("BestJobOrder(%v) = %v, %d, %d; want %v, %d", setups, order, n, code, best[0], least)
					}
					setup, code := impl.SetupOf(4, 4, impl.Piece{Wide: 5, High: 3}, "TLBR")
					if !slices.Equal(setup, unitsOf("T6 L10 B3 R5")) || code != impl.ErrNone {
						t.Errorf("SetupOf = %v, %d", setup, code)
					}
				}
			})
		}
		calls.Wait()
	}
}

// TestSetupsKeepTheirArguments checks that no list is changed, nor the capacity behind it.
func TestSetupsKeepTheirArguments(t *testing.T) {
	spare := impl.Unit{Along: true, Gap: 77, Over: true}
	for n := range 8 {
		want := setupsFrom(int64(n)+3, n, 2)
		wantOrder := lastOrder(n)
		order := spareCopy(wantOrder, 77)
		setups := spareCopy(want, []impl.Unit{spare})
		for i, setup := range want {
			setups[i] = spareCopy(setup, spare)
			impl.SchemeOfSetup(setups[i])
			impl.LayersAfter(setups[i], 1)
			impl.CountChanges(setups[i], setups[0])
		}
		impl.EffortOf(setups, order)
		best, _, _ := impl.BestJobOrder(setups)
		for i, setup := range want {
			if !keptSpare(setups[i], setup, spare) {
				t.Fatalf("%v was changed to %v", setup, setups[i][:len(setup)+3])
			}
		}
		for _, behind := range setups[n : n+3] {
			if !slices.Equal(behind, []impl.Unit{spare}) {
				t.Fatalf("what is behind %v was changed to %v", want, behind)
			}
		}
		if !keptSpare(order, wantOrder, 77) {
			t.Fatalf("the order %v was changed to %v", wantOrder, order[:n+3])
		}
		kept := slices.Clone(best)
		second, _, _ := impl.BestJobOrder(setups)
		clear(second[:cap(second)])
		if third, _, _ := impl.BestJobOrder(setups); !slices.Equal(best, kept) || !slices.Equal(third, kept) {
			t.Errorf("best orders share memory with one another")
		}
	}
}

// TestSetupsAreNotShared checks that a set-up is new each time.
func TestSetupsAreNotShared(t *testing.T) {
	cell := impl.Piece{Wide: 5, High: 3}
	want := unitsOf("T6 L10 B3 R5")
	first, _ := impl.SetupOf(4, 4, cell, "TLBR")
	second, _ := impl.SetupOf(4, 4, cell, "TLBR")
	clear(second[:cap(second)])
	if !slices.Equal(first, want) {
		t.Errorf("a set-up became %v when another one was cleared", first)
	}
	checkSetup(t, sheetSize{4, 4}, cell, "TLBR", want)
}

// TestNilAndEmptySetups checks that lists without elements are the same, whether nil or not.
func TestNilAndEmptySetups(t *testing.T) {
	empty := []impl.Unit{}
	for _, none := range [][]impl.Unit{nil, empty} {
		if scheme, code := impl.SchemeOfSetup(none); scheme != "" || code != impl.ErrNone {
			t.Errorf("SchemeOfSetup of no units = %q, %d", scheme, code)
		}
		if n, code := impl.LayersAfter(none, 0); n != 1 || code != impl.ErrNone {
			t.Errorf("LayersAfter no units = %d, %d", n, code)
		}
		checkChanges(t, none, nil, 0)
		checkChanges(t, none, empty, 0)
		checkBestOrder(t, [][]impl.Unit{none, unitsOf("L1"), none}, []int64{0, 2, 1}, 1)
	}
	for _, none := range [][][]impl.Unit{nil, {}} {
		checkEffort(t, none, nil, 0)
		checkEffort(t, none, []int64{}, 0)
		checkBestOrder(t, none, nil, 0)
		checkNoEffort(t, none, []int64{0}, impl.ErrRange)
	}
}
