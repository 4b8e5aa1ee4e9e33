package tests

import (
	"math"
	"slices"
	"testing"

	"loop.example/g00944/impl"
)

// notSheetSides returns numbers that no side of a press sheet or of a page has.
func notSheetSides() []int64 {
	return outOf(1, impl.MaxSheet)
}

// notMargins returns numbers that no bleed and no gutter has.
func notMargins() []int64 {
	return outOf(0, impl.MaxSheet)
}

// notPresses returns press sheets that are not valid, each for one reason or for several.
func notPresses() []impl.Press {
	list := []impl.Press{{}, {Grain: true}, {Wide: 20000, High: 20001, Grip: 20000}, {Wide: -7, High: -5, Grip: -6}}
	for _, grain := range []bool{false, true} {
		for _, side := range notSheetSides() {
			list = append(list, impl.Press{Wide: side, High: 5000, Grip: 100, Grain: grain}, impl.Press{Wide: 7000, High: side, Grain: grain})
			list = append(list, impl.Press{Wide: side, High: side, Grip: side - 1, Grain: grain})
		}
		for _, high := range []int64{1, 2, 5000, impl.MaxSheet} {
			for _, grip := range append(outOf(0, high-1), -high) {
				list = append(list, impl.Press{Wide: 7000, High: high, Grip: grip, Grain: grain})
			}
		}
	}
	return list
}

// notTrims returns trims that are not valid, each for one reason or for several.
func notTrims() []impl.Trim {
	list := []impl.Trim{{}, {Wide: 1}, {High: 1}, {Wide: -3, High: -4, Bleed: -1, Gutter: -2}}
	for _, side := range notSheetSides() {
		list = append(list, impl.Trim{Wide: side, High: 2100, Bleed: 30, Gutter: 60}, impl.Trim{Wide: 1480, High: side})
		list = append(list, impl.Trim{Wide: side, High: side, Bleed: side, Gutter: side})
	}
	for _, margin := range notMargins() {
		list = append(list, impl.Trim{Wide: 1480, High: 2100, Bleed: margin, Gutter: 60}, impl.Trim{Wide: 1, High: 1, Gutter: margin})
	}
	return list
}

// somePresses returns valid press sheets: great and small ones, and such with most of the height in
// the grip.
func somePresses() []impl.Press {
	return []impl.Press{
		{Wide: 1, High: 1}, {Wide: 1, High: 1, Grain: true}, {Wide: 7000, High: 5000, Grip: 100, Grain: true}, {Wide: 5000, High: 7000},
		{Wide: 20000, High: 20000, Grain: true}, {Wide: 20000, High: 20000, Grip: 19999}, {Wide: 20000, High: 1}, {Wide: 1, High: 20000, Grip: 1},
		{Wide: 4300, High: 6100, Grip: 90}, {Wide: 19999, High: 9973, Grip: 5000, Grain: true},
	}
}

// someTrims returns valid trims with and without bleed and gutter, with the least and the greatest
// lengths.
func someTrims() []impl.Trim {
	list := []impl.Trim{
		{Wide: 20000, High: 20000}, {Wide: 20000, High: 1}, {Wide: 1, High: 20000}, {Wide: 19999, High: 19999, Gutter: 1},
		{Wide: 20000, High: 20000, Bleed: 20000, Gutter: 20000}, {Wide: 1, High: 1, Bleed: 20000}, {Wide: 1, High: 1, Gutter: 20000},
		{Wide: 1, High: 1, Bleed: 10000}, {Wide: 1, High: 1, Bleed: 9999}, {Wide: 2, High: 1, Bleed: 9999, Gutter: 20000},
	}
	for _, size := range [][2]int64{{1, 1}, {1, 2}, {3, 2}, {97, 97}, {1480, 2100}, {2100, 1480}, {6999, 5000}, {9999, 10000}} {
		for _, bleed := range []int64{0, 1, 30} {
			for _, gutter := range []int64{0, 1, 60} {
				list = append(list, impl.Trim{Wide: size[0], High: size[1], Bleed: bleed, Gutter: gutter})
			}
		}
	}
	return list
}

// rowLength lays n pages with a side along a row, one after the other, and returns how long it is
// with the bleed before the first page and behind the last one.
func rowLength(t impl.Trim, side int64, n int64) int64 {
	length := t.Bleed + side
	for range n - 1 {
		length += t.Gutter + side
	}
	return length + t.Bleed
}

// laidRow lays pages along a row as long as there is space for one more, and returns where each
// begins.
func laidRow(t impl.Trim, side int64, space int64) []int64 {
	var starts []int64
	for at := t.Bleed; at+side+t.Bleed <= space; at += side + t.Gutter {
		starts = append(starts, at)
	}
	return starts
}

// laidGrid returns where the columns and rows of the upright grid begin, none of both if not even
// one page fits.
func laidGrid(p impl.Press, t impl.Trim) (columns []int64, rows []int64) {
	columns, rows = laidRow(t, t.Wide, p.Wide), laidRow(t, t.High, p.High-p.Grip)
	if len(columns) == 0 || len(rows) == 0 {
		return nil, nil
	}
	return columns, rows
}

// exchanged returns the trim whose sides have been exchanged.
func exchanged(t impl.Trim) impl.Trim {
	return impl.Trim{Wide: t.High, High: t.Wide, Bleed: t.Bleed, Gutter: t.Gutter}
}

// laidCount returns how many pages the upright grid has.
func laidCount(p impl.Press, t impl.Trim) int64 {
	columns, rows := laidGrid(p, t)
	return int64(len(columns) * len(rows))
}

// bestByHand returns what BestGrid is to return.
func bestByHand(p impl.Press, t impl.Trim, grain bool) (bool, int64, int64) {
	upright, turned := laidCount(p, t), laidCount(p, exchanged(t))
	if grain && p.Grain {
		turned = 0
	}
	if grain && !p.Grain {
		upright = 0
	}
	if upright == 0 && turned == 0 {
		return false, 0, impl.ErrNotFound
	}
	return turned > upright, max(upright, turned), impl.ErrNone
}

func TestIsPress(t *testing.T) {
	for _, wide := range []int64{1, 2, 19999, impl.MaxSheet} {
		for _, high := range []int64{1, 2, 19999, impl.MaxSheet} {
			for _, grip := range []int64{0, 1, high / 2, high - 2, high - 1, high, high + 1, -1} {
				for _, grain := range []bool{false, true} {
					p := impl.Press{Wide: wide, High: high, Grip: grip, Grain: grain}
					if got, want := impl.IsPress(p), grip >= 0 && grip < high; got != want {
						t.Errorf("IsPress(%v) = %v", p, got)
					}
				}
			}
		}
	}
	for _, p := range notPresses() {
		if impl.IsPress(p) {
			t.Errorf("IsPress(%v)", p)
		}
	}
	for _, p := range somePresses() {
		if !impl.IsPress(p) {
			t.Errorf("IsPress(%v) is false", p)
		}
	}
	if impl.MaxSheet != 20000 {
		t.Errorf("MaxSheet is %d", impl.MaxSheet)
	}
}

func TestIsTrim(t *testing.T) {
	lengths := []int64{0, 1, 2, 19999, 20000, 20001, -1}
	for _, wide := range lengths {
		for _, high := range lengths {
			for _, bleed := range lengths {
				for _, gutter := range lengths {
					s := impl.Trim{Wide: wide, High: high, Bleed: bleed, Gutter: gutter}
					want := min(wide, high) >= 1 && min(bleed, gutter) >= 0 && max(wide, high, bleed, gutter) <= impl.MaxSheet
					if got := impl.IsTrim(s); got != want {
						t.Errorf("IsTrim(%v) = %v", s, got)
					}
				}
			}
		}
	}
	for _, s := range notTrims() {
		if impl.IsTrim(s) {
			t.Errorf("IsTrim(%v)", s)
		}
	}
	for _, s := range someTrims() {
		if !impl.IsTrim(s) {
			t.Errorf("IsTrim(%v) is false", s)
		}
	}
}

func TestGridOf(t *testing.T) {
	for _, c := range []struct {
		wide, high, grip int64
		trim             impl.Trim
		columns, rows    int64
	}{
		{7000, 5000, 100, impl.Trim{Wide: 1480, High: 2100, Bleed: 30, Gutter: 60}, 4, 2},
		{7000, 5000, 100, impl.Trim{Wide: 2100, High: 1480, Bleed: 30, Gutter: 60}, 3, 3},
		// Just one page fits, with the bleed and above the grip.
		{1, 1, 0, impl.Trim{Wide: 1, High: 1}, 1, 1},
		{1, 1, 0, impl.Trim{Wide: 1, High: 1, Gutter: 20000}, 1, 1},
		{1540, 2160, 0, impl.Trim{Wide: 1480, High: 2100, Bleed: 30, Gutter: 60}, 1, 1},
		{1540, 2260, 100, impl.Trim{Wide: 1480, High: 2100, Bleed: 30, Gutter: 60}, 1, 1},
		{20000, 20000, 0, impl.Trim{Wide: 20000, High: 20000}, 1, 1},
		{20000, 20000, 0, impl.Trim{Wide: 20000, High: 20000, Gutter: 20000}, 1, 1},
		{20000, 20000, 0, impl.Trim{Wide: 2, High: 2, Bleed: 9999}, 1, 1},
		{20000, 20000, 19999, impl.Trim{Wide: 20000, High: 1}, 1, 1},
		// Nothing is left.
		{20000, 20000, 0, impl.Trim{Wide: 1, High: 1}, 20000, 20000},
		{19999, 19999, 0, impl.Trim{Wide: 1, High: 1, Gutter: 1}, 10000, 10000},
		{300, 200, 0, impl.Trim{Wide: 100, High: 50}, 3, 4},
		{320, 230, 0, impl.Trim{Wide: 100, High: 50, Gutter: 10}, 3, 4},
		{330, 217, 0, impl.Trim{Wide: 100, High: 50, Bleed: 5, Gutter: 10}, 3, 3},
		{330, 240, 0, impl.Trim{Wide: 100, High: 50, Bleed: 5, Gutter: 10}, 3, 4},
		{330, 247, 7, impl.Trim{Wide: 100, High: 50, Bleed: 5, Gutter: 10}, 3, 4},
		// One tenth is missing for a further column, for a further row, or for both.
		{399, 200, 0, impl.Trim{Wide: 100, High: 50}, 3, 4},
		{300, 249, 0, impl.Trim{Wide: 100, High: 50}, 3, 4},
		{429, 289, 0, impl.Trim{Wide: 100, High: 50, Gutter: 10}, 3, 4},
		{439, 299, 0, impl.Trim{Wide: 100, High: 50, Bleed: 5, Gutter: 10}, 3, 4},
		{439, 306, 7, impl.Trim{Wide: 100, High: 50, Bleed: 5, Gutter: 10}, 3, 4},
		{440, 307, 7, impl.Trim{Wide: 100, High: 50, Bleed: 5, Gutter: 10}, 4, 5},
		{20000, 20000, 0, impl.Trim{Wide: 1, High: 1, Gutter: 1}, 10000, 10000},
		{20000, 20000, 0, impl.Trim{Wide: 10000, High: 10001, Gutter: 1}, 1, 1},
	} {
		for _, grain := range []bool{false, true} {
			p := impl.Press{Wide: c.wide, High: c.high, Grip: c.grip, Grain: grain}
			columns, rows, code := impl.GridOf(p, c.trim)
			if columns != c.columns || rows != c.rows || code != impl.ErrNone {
				t.Errorf("GridOf(%v, %v) = %d, %d, %d; want %d, %d", p, c.trim, columns, rows, code, c.columns, c.rows)
			}
		}
	}
}

// checkNoPage checks that the functions of the upright grid report that not even one page fits, and
// that no page has a corner then.
func checkNoPage(t *testing.T, p impl.Press, s impl.Trim) {
	t.Helper()
	if columns, rows, code := impl.GridOf(p, s); columns != 0 || rows != 0 || code != impl.ErrNotFound {
		t.Errorf("GridOf(%v, %v) = %d, %d, %d", p, s, columns, rows, code)
	}
	if area, code := impl.WasteArea(p, s); area != 0 || code != impl.ErrNotFound {
		t.Errorf("WasteArea(%v, %v) = %d, %d", p, s, area, code)
	}
	for _, place := range [][2]int64{{0, 0}, {1, 0}, {0, 1}, {1, 1}, {-1, 0}, {0, -1}, {-1, -1}, {math.MinInt64, math.MaxInt64}} {
		checkNoCorner(t, p, s, place, impl.ErrRange)
	}
}

// checkNoCorner checks that CornerOf reports an error for the page in a column and a row.
func checkNoCorner(t *testing.T, p impl.Press, s impl.Trim, place [2]int64, want int64) {
	t.Helper()
	if x, y, code := impl.CornerOf(p, s, place[0], place[1]); x != 0 || y != 0 || code != want {
		t.Errorf("CornerOf(%v, %v, %d, %d) = %d, %d, %d; want %d", p, s, place[0], place[1], x, y, code, want)
	}
}

func TestNoPageFits(t *testing.T) {
	s := impl.Trim{Wide: 1480, High: 2100, Bleed: 30, Gutter: 60}
	for _, c := range []struct {
		press impl.Press
		trim  impl.Trim
	}{
		// The sheet is a tenth too small in one direction, or in both.
		{impl.Press{Wide: 1539, High: 2260, Grip: 100}, s},
		{impl.Press{Wide: 1540, High: 2259, Grip: 100}, s},
		{impl.Press{Wide: 1539, High: 2259, Grip: 100}, s},
		{impl.Press{Wide: 1539, High: 20000}, s},
		{impl.Press{Wide: 20000, High: 2159, Grain: true}, s},
		{impl.Press{Wide: 1540, High: 2260, Grip: 101}, s},
		{impl.Press{Wide: 20000, High: 20000, Grip: 19999}, s},
		{impl.Press{Wide: 1, High: 2}, impl.Trim{Wide: 2, High: 2}},
		{impl.Press{Wide: 2, High: 1}, impl.Trim{Wide: 2, High: 2}},
		{impl.Press{Wide: 1, High: 1, Grain: true}, impl.Trim{Wide: 2, High: 2}},
		{impl.Press{Wide: 19999, High: 20000}, impl.Trim{Wide: 20000, High: 20000}},
		{impl.Press{Wide: 20000, High: 19999}, impl.Trim{Wide: 20000, High: 20000}},
		{impl.Press{Wide: 20000, High: 20000, Grip: 1}, impl.Trim{Wide: 20000, High: 20000}},
		// A page would fit, but not with its bleed, of which a great gutter takes nothing back.
		{impl.Press{Wide: 20000, High: 20000}, impl.Trim{Wide: 1, High: 1, Bleed: 10000}},
		{impl.Press{Wide: 20000, High: 20000}, impl.Trim{Wide: 1, High: 1, Bleed: 20000}},
		{impl.Press{Wide: 20000, High: 20000}, impl.Trim{Wide: 1, High: 1, Bleed: 10000, Gutter: 1}},
		{impl.Press{Wide: 20000, High: 20000}, impl.Trim{Wide: 1, High: 1, Bleed: 20000, Gutter: 20000}},
		{impl.Press{Wide: 1, High: 1}, impl.Trim{Wide: 1, High: 1, Bleed: 1, Gutter: 20000}},
		{impl.Press{Wide: 1, High: 1}, impl.Trim{Wide: 20000, High: 20000, Bleed: 20000, Gutter: 20000}},
	} {
		checkNoPage(t, c.press, c.trim)
	}
}

// checkSheet checks all that is told of the grids of a press sheet and a trim against pages that
// are laid one after the other.
func checkSheet(t *testing.T, p impl.Press, s impl.Trim) {
	t.Helper()
	columns, rows := laidGrid(p, s)
	if len(columns) == 0 {
		checkNoPage(t, p, s)
	} else {
		checkGrid(t, p, s, columns, rows)
	}
	for _, grain := range []bool{false, true} {
		checkBest(t, p, s, grain)
	}
}

// checkGrid checks the upright grid whose columns and rows begin where they are told to.
func checkGrid(t *testing.T, p impl.Press, s impl.Trim, columns []int64, rows []int64) {
	t.Helper()
	a, c := int64(len(columns)), int64(len(rows))
	if gotA, gotC, code := impl.GridOf(p, s); gotA != a || gotC != c || code != impl.ErrNone {
		t.Fatalf("GridOf(%v, %v) = %d, %d, %d; want %d, %d", p, s, gotA, gotC, code, a, c)
	}
	if area, code := impl.WasteArea(p, s); area < 0 || area+a*c*(s.Wide*s.High) != p.Wide*p.High || code != impl.ErrNone {
		t.Fatalf("WasteArea(%v, %v) = %d, %d", p, s, area, code)
	}
	for _, i := range []int64{0, 1, a / 2, a - 2, a - 1} {
		for _, j := range []int64{0, 1, c / 2, c - 2, c - 1} {
			if i < 0 || i >= a || j < 0 || j >= c {
				continue
			}
			if x, y, code := impl.CornerOf(p, s, i, j); x != columns[i] || y != rows[j] || code != impl.ErrNone {
				t.Fatalf("CornerOf(%v, %v, %d, %d) = %d, %d, %d; want %d, %d", p, s, i, j, x, y, code, columns[i], rows[j])
			}
		}
	}
	for _, place := range [][2]int64{{a, 0}, {0, c}, {a, c}, {a, c - 1}, {a - 1, c}, {-1, 0}, {0, -1}, {-1, -1}, {-1, c - 1}, {a - 1, -1}} {
		checkNoCorner(t, p, s, place, impl.ErrRange)
	}
}

// checkBest checks which grid is the better one.
func checkBest(t *testing.T, p impl.Press, s impl.Trim, grain bool) {
	t.Helper()
	turned, n, code := impl.BestGrid(p, s, grain)
	wantTurned, want, wantCode := bestByHand(p, s, grain)
	if turned != wantTurned || n != want || code != wantCode {
		t.Errorf("BestGrid(%v, %v, %v) = %v, %d, %d; want %v, %d, %d", p, s, grain, turned, n, code, wantTurned, want, wantCode)
	}
}

// TestSmallSheets checks all grids of all small sheets.
func TestSmallSheets(t *testing.T) {
	for wide := int64(1); wide <= 7; wide++ {
		for high := int64(1); high <= 6; high++ {
			for grip := range high {
				for code := range int64(4 * 4 * 3 * 3) {
					s := impl.Trim{Wide: 1 + code%4, High: 1 + code/4%4, Bleed: code / 16 % 3, Gutter: code / 48}
					checkSheet(t, impl.Press{Wide: wide, High: high, Grip: grip}, s)
					checkSheet(t, impl.Press{Wide: wide, High: high, Grip: grip, Grain: true}, s)
				}
			}
		}
	}
}

// TestSheetsOfManySizes checks the grids of sheets and pages of very different sizes.
func TestSheetsOfManySizes(t *testing.T) {
	for _, p := range somePresses() {
		for _, s := range someTrims() {
			checkSheet(t, p, s)
		}
	}
}

func TestCornerOf(t *testing.T) {
	p, s := impl.Press{Wide: 7000, High: 5000, Grip: 100, Grain: true}, impl.Trim{Wide: 1480, High: 2100, Bleed: 30, Gutter: 60}
	for _, c := range []struct{ i, j, x, y int64 }{
		{0, 0, 30, 30}, {1, 0, 1570, 30}, {0, 1, 30, 2190}, {3, 0, 4650, 30}, {3, 1, 4650, 2190}, {2, 1, 3110, 2190},
	} {
		if x, y, code := impl.CornerOf(p, s, c.i, c.j); x != c.x || y != c.y || code != impl.ErrNone {
			t.Errorf("CornerOf the page %d, %d = %d, %d, %d; want %d, %d", c.i, c.j, x, y, code, c.x, c.y)
		}
	}
	for _, i := range append(outOf(0, 3), -4, math.MaxInt64/1540, math.MaxInt64/1540+1) {
		for _, j := range append(outOf(0, 1), 0, 1) {
			checkNoCorner(t, p, s, [2]int64{i, j}, impl.ErrRange)
		}
	}
	for _, j := range append(outOf(0, 1), -2, math.MaxInt64/2160, math.MaxInt64/2160+1) {
		for i := range int64(4) {
			checkNoCorner(t, p, s, [2]int64{i, j}, impl.ErrRange)
		}
	}
	last := int64(impl.MaxSheet - 1)
	tiny := impl.Trim{Wide: 1, High: 1}
	if x, y, code := impl.CornerOf(impl.Press{Wide: 20000, High: 20000}, tiny, last, last); x != last || y != last || code != impl.ErrNone {
		t.Errorf("CornerOf the last of many pages = %d, %d, %d", x, y, code)
	}
}

func TestTurnTrim(t *testing.T) {
	for _, s := range someTrims() {
		once, code := impl.TurnTrim(s)
		if once != exchanged(s) || code != impl.ErrNone {
			t.Errorf("TurnTrim(%v) = %v, %d", s, once, code)
		}
		if twice, code := impl.TurnTrim(once); twice != s || code != impl.ErrNone {
			t.Errorf("TurnTrim(%v) = %v, %d; want %v", once, twice, code, s)
		}
	}
}

func TestBestGrid(t *testing.T) {
	a5 := impl.Trim{Wide: 1480, High: 2100, Bleed: 30, Gutter: 60}
	upright, turned := impl.Trim{Wide: 2, High: 3}, impl.Trim{Wide: 3, High: 2}
	for _, c := range []struct {
		press  impl.Press
		trim   impl.Trim
		grain  bool
		turned bool
		pages  int64
		code   int64
	}{
		{impl.Press{Wide: 7000, High: 5000, Grip: 100, Grain: true}, a5, false, true, 9, impl.ErrNone},
		{impl.Press{Wide: 7000, High: 5000, Grip: 100}, a5, false, true, 9, impl.ErrNone},
		{impl.Press{Wide: 7000, High: 5000, Grip: 100}, a5, true, true, 9, impl.ErrNone},
		// The grid that follows the grain has fewer pages than the other one.
		{impl.Press{Wide: 7000, High: 5000, Grip: 100, Grain: true}, a5, true, false, 8, impl.ErrNone},
		{impl.Press{Wide: 4, High: 3}, upright, true, true, 1, impl.ErrNone},
		{impl.Press{Wide: 4, High: 3}, upright, false, false, 2, impl.ErrNone},
		{impl.Press{Wide: 4, High: 3, Grain: true}, upright, true, false, 2, impl.ErrNone},
		{impl.Press{Wide: 4, High: 3, Grain: true}, turned, true, false, 1, impl.ErrNone},
		{impl.Press{Wide: 4, High: 3, Grain: true}, turned, false, true, 2, impl.ErrNone},
		// Both have as many pages.
		{impl.Press{Wide: 6, High: 6}, upright, false, false, 6, impl.ErrNone},
		{impl.Press{Wide: 6, High: 6, Grain: true}, upright, false, false, 6, impl.ErrNone},
		{impl.Press{Wide: 6, High: 6}, upright, true, true, 6, impl.ErrNone},
		{impl.Press{Wide: 6, High: 6, Grain: true}, upright, true, false, 6, impl.ErrNone},
		{impl.Press{Wide: 1, High: 1}, impl.Trim{Wide: 1, High: 1}, false, false, 1, impl.ErrNone},
		{impl.Press{Wide: 1, High: 1}, impl.Trim{Wide: 1, High: 1}, true, true, 1, impl.ErrNone},
		// A page fits on one of the grids only.
		{impl.Press{Wide: 2, High: 3}, upright, false, false, 1, impl.ErrNone},
		{impl.Press{Wide: 2, High: 3, Grain: true}, upright, true, false, 1, impl.ErrNone},
		{impl.Press{Wide: 2, High: 3}, upright, true, false, 0, impl.ErrNotFound},
		{impl.Press{Wide: 3, High: 2}, upright, false, true, 1, impl.ErrNone},
		{impl.Press{Wide: 3, High: 2, Grain: true}, upright, false, true, 1, impl.ErrNone},
		{impl.Press{Wide: 3, High: 2}, upright, true, true, 1, impl.ErrNone},
		{impl.Press{Wide: 3, High: 2, Grain: true}, upright, true, false, 0, impl.ErrNotFound},
		{impl.Press{Wide: 3, High: 3, Grip: 1, Grain: true}, upright, false, true, 1, impl.ErrNone},
		// A page fits on none.
		{impl.Press{Wide: 2, High: 2}, upright, false, false, 0, impl.ErrNotFound},
		{impl.Press{Wide: 2, High: 2}, upright, true, false, 0, impl.ErrNotFound},
		{impl.Press{Wide: 2, High: 2, Grain: true}, upright, true, false, 0, impl.ErrNotFound},
		{impl.Press{Wide: 20000, High: 20000}, impl.Trim{Wide: 1, High: 2, Bleed: 10000, Gutter: 20000}, false, false, 0, impl.ErrNotFound},
		{impl.Press{Wide: 20000, High: 20000}, impl.Trim{Wide: 1, High: 1}, false, false, 400000000, impl.ErrNone},
	} {
		got, n, code := impl.BestGrid(c.press, c.trim, c.grain)
		if got != c.turned || n != c.pages || code != c.code {
			t.Errorf("BestGrid(%v, %v, %v) = %v, %d, %d; want %v, %d, %d", c.press, c.trim, c.grain, got, n, code, c.turned, c.pages, c.code)
		}
	}
}

func TestWasteArea(t *testing.T) {
	for _, c := range []struct {
		press impl.Press
		trim  impl.Trim
		want  int64
	}{
		{impl.Press{Wide: 7000, High: 5000, Grip: 100}, impl.Trim{Wide: 1480, High: 2100, Bleed: 30, Gutter: 60}, 10136000},
		{impl.Press{Wide: 7000, High: 5000, Grip: 100}, impl.Trim{Wide: 2100, High: 1480, Bleed: 30, Gutter: 60}, 7028000},
		{impl.Press{Wide: 1, High: 1}, impl.Trim{Wide: 1, High: 1, Gutter: 20000}, 0},
		{impl.Press{Wide: 300, High: 200}, impl.Trim{Wide: 100, High: 50}, 0},
		{impl.Press{Wide: 300, High: 200, Grain: true}, impl.Trim{Wide: 300, High: 200}, 0},
		{impl.Press{Wide: 20000, High: 20000}, impl.Trim{Wide: 1, High: 1}, 0},
		{impl.Press{Wide: 20000, High: 20000}, impl.Trim{Wide: 20000, High: 20000}, 0},
		{impl.Press{Wide: 20000, High: 20000, Grip: 1}, impl.Trim{Wide: 1, High: 1}, 20000},
		{impl.Press{Wide: 20000, High: 20000, Grip: 19999}, impl.Trim{Wide: 1, High: 1, Bleed: 0, Gutter: 20000}, 399999999},
		// Gutters, bleed and grip are waste, even if nothing else is left.
		{impl.Press{Wide: 300, High: 207, Grip: 7}, impl.Trim{Wide: 100, High: 50}, 2100},
		{impl.Press{Wide: 3, High: 1}, impl.Trim{Wide: 1, High: 1, Gutter: 1}, 1},
		{impl.Press{Wide: 3, High: 3}, impl.Trim{Wide: 1, High: 1, Bleed: 1}, 8},
	} {
		if got, code := impl.WasteArea(c.press, c.trim); got != c.want || code != impl.ErrNone {
			t.Errorf("WasteArea(%v, %v) = %d, %d; want %d", c.press, c.trim, got, code, c.want)
		}
	}
}

// checkNoLeastSheet checks that LeastSheet reports an error.
func checkNoLeastSheet(t *testing.T, s impl.Trim, a int64, c int64, grip int64, want int64) {
	t.Helper()
	if p, code := impl.LeastSheet(s, a, c, grip); p != (impl.Press{}) || code != want {
		t.Errorf("LeastSheet(%v, %d, %d, %d) = %v, %d; want %d", s, a, c, grip, p, code, want)
	}
}

func TestLeastSheet(t *testing.T) {
	a5 := impl.Trim{Wide: 1480, High: 2100, Bleed: 30, Gutter: 60}
	tiny := impl.Trim{Wide: 1, High: 1}
	for _, c := range []struct {
		trim       impl.Trim
		a, c, grip int64
		wide, high int64
	}{
		{a5, 4, 2, 100, 6160, 4420}, {a5, 1, 1, 0, 1540, 2160}, {a5, 1, 1, 17840, 1540, 20000}, {a5, 12, 9, 500, 18480, 19940},
		{tiny, 1, 1, 0, 1, 1}, {tiny, 1, 1, 19999, 1, 20000}, {tiny, 20000, 20000, 0, 20000, 20000}, {tiny, 20000, 1, 19999, 20000, 20000},
		{tiny, 1, 20000, 0, 1, 20000}, {tiny, 19999, 19999, 1, 19999, 20000},
		{impl.Trim{Wide: 1, High: 1, Gutter: 20000}, 1, 1, 0, 1, 1},
		{impl.Trim{Wide: 1, High: 1, Gutter: 19998}, 2, 2, 0, 20000, 20000},
		{impl.Trim{Wide: 2, High: 1, Bleed: 9999}, 1, 1, 1, 20000, 20000},
		{impl.Trim{Wide: 1, High: 1, Gutter: 1}, 10000, 10000, 1, 19999, 20000},
		{impl.Trim{Wide: 20000, High: 20000}, 1, 1, 0, 20000, 20000},
		{impl.Trim{Wide: 100, High: 50, Bleed: 5, Gutter: 10}, 3, 4, 7, 330, 247},
	} {
		want := impl.Press{Wide: c.wide, High: c.high, Grip: c.grip, Grain: true}
		if got, code := impl.LeastSheet(c.trim, c.a, c.c, c.grip); got != want || code != impl.ErrNone {
			t.Errorf("LeastSheet(%v, %d, %d, %d) = %v, %d; want %v", c.trim, c.a, c.c, c.grip, got, code, want)
		}
	}
	for _, c := range []struct {
		trim       impl.Trim
		a, c, grip int64
	}{
		// A side would be a tenth too long, or far too long.
		{a5, 14, 2, 100}, {a5, 13, 2, 0}, {a5, 1, 10, 0}, {a5, 1, 1, 17841}, {a5, 1, 1, 20000}, {a5, 20000, 20000, 20000},
		{tiny, 1, 1, 20000}, {tiny, 20000, 20000, 1}, {tiny, 1, 20000, 1}, {tiny, 1, 2, 19999},
		{impl.Trim{Wide: 1, High: 1, Gutter: 19999}, 2, 1, 0}, {impl.Trim{Wide: 1, High: 1, Gutter: 19999}, 1, 2, 0},
		{impl.Trim{Wide: 1, High: 1, Gutter: 1}, 10001, 1, 0}, {impl.Trim{Wide: 1, High: 1, Gutter: 1}, 1, 10000, 2},
		{impl.Trim{Wide: 3, High: 1, Bleed: 9999}, 1, 1, 0}, {impl.Trim{Wide: 1, High: 3, Bleed: 9999}, 1, 1, 0},
		{impl.Trim{Wide: 1, High: 1, Bleed: 10000}, 1, 1, 0}, {impl.Trim{Wide: 20000, High: 20000}, 2, 1, 0},
		{impl.Trim{Wide: 20000, High: 20000}, 1, 2, 0}, {impl.Trim{Wide: 20000, High: 20000}, 1, 1, 1},
		{impl.Trim{Wide: 20000, High: 20000, Bleed: 20000, Gutter: 20000}, 20000, 20000, 20000},
	} {
		checkNoLeastSheet(t, c.trim, c.a, c.c, c.grip, impl.ErrLimit)
	}
}

// TestLeastSheetsHaveNothingToSpare lays grids page by page. Their least sheets are just as long as
// they are, lose a column or row when they are a tenth shorter, and get one more only with all that
// it needs.
func TestLeastSheetsHaveNothingToSpare(t *testing.T) {
	for _, s := range someTrims() {
		for _, a := range []int64{1, 2, 3, 7, 100, 9999, 20000} {
			wide := rowLength(s, s.Wide, a)
			for _, c := range []int64{1, 2, 5, 64, 10000} {
				high := rowLength(s, s.High, c)
				for _, grip := range []int64{0, 1, 100, 9999, 19999, 20000} {
					if wide > impl.MaxSheet || high+grip > impl.MaxSheet {
						checkNoLeastSheet(t, s, a, c, grip, impl.ErrLimit)
						continue
					}
					want := impl.Press{Wide: wide, High: high + grip, Grip: grip, Grain: true}
					if p, code := impl.LeastSheet(s, a, c, grip); p != want || code != impl.ErrNone {
						t.Fatalf("LeastSheet(%v, %d, %d, %d) = %v, %d; want %v", s, a, c, grip, p, code, want)
					}
					checkNothingToSpare(t, want, s, a, c)
				}
			}
		}
	}
}

// checkNothingToSpare checks the grids of the least sheet for some columns and rows, and of sheets
// with other sides.
func checkNothingToSpare(t *testing.T, least impl.Press, s impl.Trim, a int64, c int64) {
	t.Helper()
	moreWide, moreHigh := s.Gutter+s.Wide, s.Gutter+s.High
	for _, change := range []struct{ wide, high, a, c int64 }{
		{0, 0, a, c}, {-1, 0, a - 1, c}, {0, -1, a, c - 1}, {-1, -1, a - 1, c - 1},
		{1, 1, a + 1/moreWide, c + 1/moreHigh}, {moreWide - 1, 0, a, c}, {0, moreHigh - 1, a, c}, {moreWide - 1, moreHigh - 1, a, c},
		{moreWide, 0, a + 1, c}, {0, moreHigh, a, c + 1}, {moreWide, moreHigh, a + 1, c + 1},
	} {
		p := least
		p.Wide += change.wide
		p.High += change.high
		if !impl.IsPress(p) {
			continue
		}
		if change.a == 0 || change.c == 0 {
			checkNoPage(t, p, s)
			continue
		}
		gotA, gotC, code := impl.GridOf(p, s)
		if gotA != change.a || gotC != change.c || code != impl.ErrNone {
			t.Fatalf("GridOf(%v, %v) = %d, %d, %d; want %d, %d", p, s, gotA, gotC, code, change.a, change.c)
		}
	}
}

// checkInvalidSheet checks that the functions of a press sheet and a trim report that one of them
// is not valid, before they look at the page.
func checkInvalidSheet(t *testing.T, p impl.Press, s impl.Trim) {
	t.Helper()
	if columns, rows, code := impl.GridOf(p, s); columns != 0 || rows != 0 || code != impl.ErrInvalid {
		t.Errorf("GridOf(%v, %v) = %d, %d, %d", p, s, columns, rows, code)
	}
	if area, code := impl.WasteArea(p, s); area != 0 || code != impl.ErrInvalid {
		t.Errorf("WasteArea(%v, %v) = %d, %d", p, s, area, code)
	}
	for _, grain := range []bool{false, true} {
		if turned, n, code := impl.BestGrid(p, s, grain); turned || n != 0 || code != impl.ErrInvalid {
			t.Errorf("BestGrid(%v, %v, %v) = %v, %d, %d", p, s, grain, turned, n, code)
		}
	}
	for _, place := range [][2]int64{{0, 0}, {1, 1}, {-1, 0}, {0, -1}, {20000, 20000}, {math.MinInt64, math.MaxInt64}} {
		checkNoCorner(t, p, s, place, impl.ErrInvalid)
	}
}

// TestSheetErrors checks press sheets and trims of which one or both are not valid, among them such
// on which no page would fit.
func TestSheetErrors(t *testing.T) {
	for _, p := range notPresses() {
		for _, s := range append(someTrims(), notTrims()...) {
			checkInvalidSheet(t, p, s)
		}
	}
	for _, s := range notTrims() {
		for _, p := range somePresses() {
			checkInvalidSheet(t, p, s)
		}
		if turned, code := impl.TurnTrim(s); turned != (impl.Trim{}) || code != impl.ErrInvalid {
			t.Errorf("TurnTrim(%v) = %v, %d", s, turned, code)
		}
	}
}

// TestLeastSheetErrors checks that a trim that is not valid is told first, then numbers that are
// not in their ranges, and only then a side that would be too long.
func TestLeastSheetErrors(t *testing.T) {
	rightNumbers, rightGrips := []int64{1, 2, 20000}, []int64{0, 100, 20000}
	numbers, grips := slices.Concat(rightNumbers, notSheetSides()), slices.Concat(rightGrips, notMargins())
	for _, s := range notTrims() {
		for _, n := range []int64{1, 2, 20000, 0, -1, 20001, math.MinInt64, math.MaxInt64} {
			for _, grip := range []int64{0, 20000, -1, 20001} {
				checkNoLeastSheet(t, s, n, 1, grip, impl.ErrInvalid)
				checkNoLeastSheet(t, s, 1, n, grip, impl.ErrInvalid)
			}
		}
	}
	for _, s := range []impl.Trim{{Wide: 1, High: 1}, {Wide: 1480, High: 2100, Bleed: 30, Gutter: 60}, {Wide: 20000, High: 20000, Bleed: 20000, Gutter: 20000}} {
		for _, a := range numbers {
			for _, c := range numbers {
				for _, grip := range grips {
					right := slices.Contains(rightNumbers, a) && slices.Contains(rightNumbers, c) && slices.Contains(rightGrips, grip)
					if !right {
						checkNoLeastSheet(t, s, a, c, grip, impl.ErrRange)
					}
				}
			}
		}
	}
}
