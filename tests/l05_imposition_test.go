package tests

import (
	"math"
	"slices"
	"testing"

	"loop.example/g00944/impl"
)

// printedCell is a cell of a printed sheet: the page on the side that lies up and the one on the
// side that lies down, as it is seen when the cell is turned over like a page. A page that is
// upside down has a minus sign.
type printedCell struct {
	up   int64
	down int64
}

// printedSheet returns the cells of a sheet on which a form is printed, in rows of piles of one.
func printedSheet(f impl.Form) [][][]printedCell {
	grid := make([][][]printedCell, f.High)
	for y := range f.High {
		front := f.Front[y*f.Wide : (y+1)*f.Wide]
		back := slices.Clone(f.Back[y*f.Wide : (y+1)*f.Wide])
		slices.Reverse(back)
		for x, head := range f.Heads[y*f.Wide : (y+1)*f.Wide] {
			sign := []int64{1, -1}[head]
			grid[y] = append(grid[y], []printedCell{{up: sign * front[x], down: sign * back[x]}})
		}
	}
	return grid
}

// pagesOf folds a printed sheet by hand and returns the pages of the pile from the top to the
// bottom. A cell that is turned over along has its pages turned round, too.
func pagesOf(sheet [][][]printedCell, scheme string) []int64 {
	pile := foldedGrid(sheet, scheme,
		func(cell *printedCell) { cell.up, cell.down = cell.down, cell.up },
		func(cell *printedCell) { cell.up, cell.down = -cell.down, -cell.up })
	var pages []int64
	for _, cell := range pile {
		pages = append(pages, cell.up, cell.down)
	}
	return pages
}

// readByHand returns the pages that are read when the sheet of a form is folded by hand.
func readByHand(f impl.Form, scheme string) []int64 {
	return pagesOf(printedSheet(f), scheme)
}

// allPages returns the pages of both sides of a form in increasing order.
func allPages(f impl.Form) []int64 {
	return slices.Sorted(slices.Values(slices.Concat(f.Front, f.Back)))
}

// isRunUpright reports whether pages are the first page, the one behind it, and so on, upright.
func isRunUpright(pages []int64, first int64) bool {
	for i, page := range pages {
		if page != first+int64(i) {
			return false
		}
	}
	return true
}

// isValidForm reports whether a form is valid, by its definition.
func isValidForm(f impl.Form) bool {
	cells := int(f.Wide * f.High)
	if !slices.Contains(allSheets(), sheetSize{f.Wide, f.High}) || len(f.Front) != cells || len(f.Back) != cells || len(f.Heads) != cells {
		return false
	}
	if slices.ContainsFunc(f.Heads, func(head int64) bool { return head < 0 || head > 1 }) {
		return false
	}
	pages := allPages(f)
	return pages[0] >= 1 && pages[0] <= impl.MaxNumber && isRunUpright(pages, pages[0])
}

// copyOf returns a form that shares no memory with f.
func copyOf(f impl.Form) impl.Form {
	return impl.Form{Wide: f.Wide, High: f.High, Front: slices.Clone(f.Front), Back: slices.Clone(f.Back), Heads: slices.Clone(f.Heads)}
}

func sameForm(f impl.Form, g impl.Form) bool {
	return f.Wide == g.Wide && f.High == g.High && slices.Equal(f.Front, g.Front) && slices.Equal(f.Back, g.Back) && slices.Equal(f.Heads, g.Heads)
}

func isZeroForm(f impl.Form) bool {
	return f.Wide == 0 && f.High == 0 && len(f.Front) == 0 && len(f.Back) == 0 && len(f.Heads) == 0
}

// mixedForm returns a valid form whose pages from first on and heads are in a disorder that the
// seed tells. The numbers of pages are powers of 2, so that an odd factor gives each page once.
func mixedForm(size sheetSize, first int64, seed int64) impl.Form {
	f := impl.Form{Wide: size.wide, High: size.high}
	cells := size.wide * size.high
	for i := range cells {
		f.Front = append(f.Front, first+(i*(2*seed+5)+seed)%(2*cells))
		f.Back = append(f.Back, first+((i+cells)*(2*seed+5)+seed)%(2*cells))
		f.Heads = append(f.Heads, (i*i+seed*i/3+seed)%3%2)
	}
	return f
}

// someSchemes returns all schemes of a small sheet and some of those of a great one.
func someSchemes(size sheetSize) []string {
	schemes := listedSchemes(size)
	if len(schemes) <= 24 {
		return schemes
	}
	var some []string
	for i := 0; i < len(schemes); i += len(schemes)/24 | 1 {
		some = append(some, schemes[i])
	}
	return append(some, schemes[len(schemes)-1])
}

// wantShifted returns a form with greater pages.
func wantShifted(f impl.Form, by int64) impl.Form {
	g := copyOf(f)
	for i := range g.Front {
		g.Front[i] += by
		g.Back[i] += by
	}
	return g
}

// invalidForms returns forms that are not valid, each for one reason.
func invalidForms() []impl.Form {
	forms := []impl.Form{{}, {Wide: 1, High: 1}, {Wide: 8, High: 8}}
	for _, size := range notSheets() {
		forms = append(forms, impl.Form{Wide: size.wide, High: size.high})
	}
	add := func(f impl.Form, change func(f *impl.Form)) {
		g := copyOf(f)
		change(&g)
		forms = append(forms, g)
	}
	for _, size := range []sheetSize{{1, 1}, {2, 1}, {1, 4}, {2, 2}, {8, 2}, {8, 8}} {
		f := mixedForm(size, 3, 1)
		last := len(f.Front) - 1
		for _, side := range []int64{0, -1, -2, 3, 5, 6, 7, 16, math.MinInt64, math.MaxInt64} {
			add(f, func(g *impl.Form) { g.Wide = side })
			add(f, func(g *impl.Form) { g.High = side })
		}
		add(f, func(g *impl.Form) { g.Wide *= 2 })
		add(f, func(g *impl.Form) { g.High *= 2 })
		for _, list := range []func(g *impl.Form) *[]int64{
			func(g *impl.Form) *[]int64 { return &g.Front },
			func(g *impl.Form) *[]int64 { return &g.Back },
			func(g *impl.Form) *[]int64 { return &g.Heads },
		} {
			add(f, func(g *impl.Form) { *list(g) = nil })
			add(f, func(g *impl.Form) { *list(g) = []int64{} })
			add(f, func(g *impl.Form) { *list(g) = (*list(g))[:last] })
			add(f, func(g *impl.Form) { *list(g) = (*list(g))[1:] })
			add(f, func(g *impl.Form) { *list(g) = append(*list(g), 0) })
			add(f, func(g *impl.Form) { *list(g) = append(*list(g), 1) })
			add(f, func(g *impl.Form) { *list(g) = append(*list(g), 3+2*int64(last+1)) })
			add(f, func(g *impl.Form) { *list(g) = append(*list(g), make([]int64, 1000)...) })
			for _, wrong := range []int64{-1, -2, -3, math.MinInt64, math.MaxInt64, 1 << 32, 1<<32 + 1, 1 << 62, -1 << 62, 3 + 3*int64(last+1)} {
				add(f, func(g *impl.Form) { (*list(g))[0] = wrong })
				add(f, func(g *impl.Form) { (*list(g))[last] = wrong })
			}
		}
		add(f, func(g *impl.Form) { g.Heads[0] = 2 })
		add(f, func(g *impl.Form) { g.Heads[last] = 2 })
		add(f, func(g *impl.Form) { g.Heads[last/2] = 256 })
		add(f, func(g *impl.Form) { g.Front[0] = g.Back[0] })
		add(f, func(g *impl.Form) { g.Back[last] = g.Front[last] })
		add(f, func(g *impl.Form) { copy(g.Front, g.Back) })
		add(f, func(g *impl.Form) { clear(g.Front); clear(g.Back) })
		if last > 0 {
			add(f, func(g *impl.Form) { g.Front[0] = g.Front[1] })
			add(f, func(g *impl.Form) { g.Back[0] = g.Back[last] })
		}
		for _, by := range []int64{-3, -4, -1000, -impl.MaxNumber, impl.MaxNumber - 2, impl.MaxNumber, 1 << 40, math.MaxInt64 - 200, math.MinInt64 + 200, math.MaxInt64 - 3} {
			add(f, func(g *impl.Form) { *g = wantShifted(*g, by) })
		}
	}
	return forms
}

func TestImposeSheet(t *testing.T) {
	for _, c := range []struct {
		size               sheetSize
		scheme             string
		front, back, heads []int64
	}{
		{sheetSize{1, 1}, "", []int64{1}, []int64{2}, []int64{0}},
		{sheetSize{2, 1}, "R", []int64{3, 2}, []int64{1, 4}, []int64{0, 0}},
		{sheetSize{2, 1}, "L", []int64{2, 3}, []int64{4, 1}, []int64{0, 0}},
		{sheetSize{1, 2}, "T", []int64{2, 3}, []int64{1, 4}, []int64{1, 0}},
		{sheetSize{1, 2}, "B", []int64{3, 2}, []int64{4, 1}, []int64{0, 1}},
		{sheetSize{4, 1}, "LR", []int64{3, 6, 7, 2}, []int64{1, 8, 5, 4}, []int64{0, 0, 0, 0}},
		{sheetSize{1, 4}, "TB", []int64{3, 6, 7, 2}, []int64{4, 5, 8, 1}, []int64{0, 1, 0, 1}},
		{sheetSize{2, 2}, "LT", []int64{3, 2, 6, 7}, []int64{1, 4, 8, 5}, []int64{1, 1, 0, 0}},
		{sheetSize{2, 2}, "TL", []int64{3, 6, 2, 7}, []int64{5, 4, 8, 1}, []int64{1, 1, 0, 0}},
		{sheetSize{2, 2}, "BR", []int64{7, 2, 6, 3}, []int64{1, 8, 4, 5}, []int64{0, 0, 1, 1}},
		{
			sheetSize{4, 2}, "LTL",
			[]int64{11, 6, 7, 10, 14, 3, 2, 15}, []int64{9, 8, 5, 12, 16, 1, 4, 13}, []int64{1, 1, 1, 1, 0, 0, 0, 0},
		},
	} {
		want := impl.Form{Wide: c.size.wide, High: c.size.high, Front: c.front, Back: c.back, Heads: c.heads}
		got, code := impl.ImposeSheet(c.size.wide, c.size.high, c.scheme)
		if !sameForm(got, want) || code != impl.ErrNone {
			t.Errorf("ImposeSheet(%v, %q) = %v, %d; want %v", c.size, c.scheme, got, code, want)
		}
	}
}

// TestFormsOfAllSchemes checks the guarantee: the form of each scheme of each sheet, folded by hand
// and by ReadForm, gives all pages in order and upright. No other form does, since folding neither
// loses a page nor hides its head. It is right for this scheme only.
func TestFormsOfAllSchemes(t *testing.T) {
	for _, size := range allSheets() {
		for _, scheme := range listedSchemes(size) {
			f, code := impl.ImposeSheet(size.wide, size.high, scheme)
			if f.Wide != size.wide || f.High != size.high || !isValidForm(f) || code != impl.ErrNone {
				t.Fatalf("ImposeSheet(%v, %q) = %v, %d", size, scheme, f, code)
			}
			if pages := readByHand(f, scheme); !isRunUpright(pages, 1) {
				t.Errorf("%v, %q: %v by hand", size, scheme, pages)
			}
			pages, code := impl.ReadForm(f, scheme)
			if int64(len(pages)) != 2*size.wide*size.high || !isRunUpright(pages, 1) || code != impl.ErrNone {
				t.Errorf("ReadForm(%v, %q) = %v, %d", f, scheme, pages, code)
			}
			if ok, code := impl.IsRightForm(f, scheme); !ok || code != impl.ErrNone {
				t.Errorf("IsRightForm(%v, %q) = %t, %d", f, scheme, ok, code)
			}
			if got, code := impl.SchemesFor(f); !slices.Equal(got, []string{scheme}) || code != impl.ErrNone {
				t.Errorf("SchemesFor(%v) = %q, %d; want %q", f, got, code, scheme)
			}
		}
	}
}

// checkReading holds what is read of a form with a scheme against what is read by hand.
func checkReading(t *testing.T, f impl.Form, scheme string) {
	t.Helper()
	want := readByHand(f, scheme)
	if got, code := impl.ReadForm(f, scheme); !slices.Equal(got, want) || code != impl.ErrNone {
		t.Errorf("ReadForm(%v, %q) = %v, %d; want %v", f, scheme, got, code, want)
	}
	right := isRunUpright(want, allPages(f)[0])
	if got, code := impl.IsRightForm(f, scheme); got != right || code != impl.ErrNone {
		t.Errorf("IsRightForm(%v, %q) = %t, %d", f, scheme, got, code)
	}
}

func TestReadForm(t *testing.T) {
	for _, c := range []struct {
		f      impl.Form
		scheme string
		want   []int64
	}{
		{impl.Form{Wide: 1, High: 1, Front: []int64{1}, Back: []int64{2}, Heads: []int64{0}}, "", []int64{1, 2}},
		{impl.Form{Wide: 1, High: 1, Front: []int64{1}, Back: []int64{2}, Heads: []int64{1}}, "", []int64{-1, -2}},
		{impl.Form{Wide: 1, High: 1, Front: []int64{8}, Back: []int64{7}, Heads: []int64{0}}, "", []int64{8, 7}},
		{impl.Form{Wide: 2, High: 1, Front: []int64{3, 2}, Back: []int64{1, 4}, Heads: []int64{0, 1}}, "R", []int64{-1, -2, 3, 4}},
		{impl.Form{Wide: 2, High: 1, Front: []int64{3, 2}, Back: []int64{1, 4}, Heads: []int64{0, 1}}, "L", []int64{4, 3, -2, -1}},
		{impl.Form{Wide: 1, High: 2, Front: []int64{2, 3}, Back: []int64{1, 4}, Heads: []int64{1, 0}}, "T", []int64{1, 2, 3, 4}},
		{impl.Form{Wide: 1, High: 2, Front: []int64{2, 3}, Back: []int64{1, 4}, Heads: []int64{0, 0}}, "T", []int64{-1, -2, 3, 4}},
		{impl.Form{Wide: 1, High: 2, Front: []int64{2, 3}, Back: []int64{1, 4}, Heads: []int64{1, 0}}, "B", []int64{-4, -3, -2, -1}},
	} {
		if got, code := impl.ReadForm(c.f, c.scheme); !slices.Equal(got, c.want) || code != impl.ErrNone {
			t.Errorf("ReadForm(%v, %q) = %v, %d; want %v", c.f, c.scheme, got, code, c.want)
		}
	}
	for _, size := range allSheets() {
		for i, scheme := range someSchemes(size) {
			for _, first := range []int64{1, 2, 17, impl.MaxNumber - 2*size.wide*size.high + 1, impl.MaxNumber} {
				checkReading(t, mixedForm(size, first, int64(i)), scheme)
			}
			for _, other := range someSchemes(size) {
				f, _ := impl.ImposeSheet(size.wide, size.high, other)
				checkReading(t, f, scheme)
			}
		}
	}
}

// TestIsRightForm looks at forms of schemes in which the pages begin with other numbers, one cell
// is turned round, or two pages are exchanged.
func TestIsRightForm(t *testing.T) {
	for _, size := range allSheets() {
		cells := size.wide * size.high
		schemes := someSchemes(size)
		for _, scheme := range []string{schemes[0], schemes[len(schemes)/2], schemes[len(schemes)-1]} {
			one, _ := impl.ImposeSheet(size.wide, size.high, scheme)
			for _, first := range []int64{2, 3, 100, impl.MaxNumber - 2*cells + 1, impl.MaxNumber} {
				f := wantShifted(one, first-1)
				if ok, code := impl.IsRightForm(f, scheme); !ok || code != impl.ErrNone {
					t.Errorf("IsRightForm(%v, %q) = %t, %d", f, scheme, ok, code)
				}
				if got, code := impl.SchemesFor(f); !slices.Equal(got, []string{scheme}) || code != impl.ErrNone {
					t.Errorf("SchemesFor(%v) = %q, %d", f, got, code)
				}
			}
			for cell := range cells {
				f := copyOf(one)
				f.Heads[cell] = 1 - f.Heads[cell]
				checkWrong(t, f, scheme)
				f = copyOf(one)
				f.Front[cell], f.Back[cells-1-cell] = f.Back[cells-1-cell], f.Front[cell]
				checkWrong(t, f, scheme)
				if next := (cell + 1) % cells; next != cell {
					f = copyOf(one)
					f.Front[cell], f.Front[next] = f.Front[next], f.Front[cell]
					checkWrong(t, f, scheme)
					f = copyOf(one)
					f.Back[cell], f.Back[next] = f.Back[next], f.Back[cell]
					checkWrong(t, f, scheme)
				}
			}
		}
	}
}

// checkWrong checks that a valid form is not right for a scheme.
func checkWrong(t *testing.T, f impl.Form, scheme string) {
	t.Helper()
	checkReading(t, f, scheme)
	if ok, code := impl.IsRightForm(f, scheme); ok || code != impl.ErrNone {
		t.Errorf("IsRightForm(%v, %q) = %t, %d", f, scheme, ok, code)
	}
}

// TestSchemesFor reads forms by hand with all schemes. Those of a sheet of one and of two cells are
// all looked at.
func TestSchemesFor(t *testing.T) {
	check := func(f impl.Form) {
		t.Helper()
		var want []string
		for _, scheme := range listedSchemes(sheetSize{f.Wide, f.High}) {
			if isRunUpright(readByHand(f, scheme), allPages(f)[0]) {
				want = append(want, scheme)
			}
		}
		if got, code := impl.SchemesFor(f); !slices.Equal(got, want) || code != impl.ErrNone {
			t.Errorf("SchemesFor(%v) = %q, %d; want %q", f, got, code, want)
		}
	}
	for _, size := range []sheetSize{{1, 1}, {2, 1}, {1, 2}} {
		count := 0
		for _, f := range smallForms(size) {
			if isValidForm(f) {
				check(f)
				count++
			}
		}
		if want := map[sheetSize]int{{1, 1}: 8, {2, 1}: 192, {1, 2}: 192}[size]; count != want {
			t.Errorf("%v: %d forms were looked at", size, count)
		}
	}
	for _, size := range allSheets() {
		if size.wide*size.high > 32 {
			continue
		}
		check(mixedForm(size, 1, 0))
		check(mixedForm(size, 9, 4))
		for _, scheme := range someSchemes(size)[:min(2, len(someSchemes(size)))] {
			f, _ := impl.ImposeSheet(size.wide, size.high, scheme)
			check(f)
			turned, _ := impl.TurnForm(f)
			check(turned)
		}
	}
	f := impl.Form{Wide: 1, High: 1, Front: []int64{2}, Back: []int64{1}, Heads: []int64{0}}
	if got, code := impl.SchemesFor(f); len(got) != 0 || code != impl.ErrNone {
		t.Errorf("SchemesFor(%v) = %q, %d", f, got, code)
	}
	f = impl.Form{Wide: 1, High: 1, Front: []int64{5}, Back: []int64{6}, Heads: []int64{0}}
	if got, code := impl.SchemesFor(f); !slices.Equal(got, []string{""}) || code != impl.ErrNone {
		t.Errorf("SchemesFor(%v) = %q, %d", f, got, code)
	}
}

// smallForms returns all forms for a sheet of few cells with pages from 0 up to one more than there
// are, and heads from -1 to 2.
func smallForms(size sheetSize) []impl.Form {
	cells := int(size.wide * size.high)
	var forms []impl.Form
	var extend func(numbers []int64)
	extend = func(numbers []int64) {
		if len(numbers) == 3*cells {
			forms = append(forms, impl.Form{
				Wide: size.wide, High: size.high,
				Front: numbers[:cells:cells], Back: numbers[cells : 2*cells : 2*cells], Heads: numbers[2*cells:],
			})
			return
		}
		least, greatest := int64(0), int64(2*cells+1)
		if len(numbers) >= 2*cells {
			least, greatest = -1, 2
		}
		for n := least; n <= greatest; n++ {
			extend(append(slices.Clone(numbers), n))
		}
	}
	extend(nil)
	return forms
}

func TestIsForm(t *testing.T) {
	for _, size := range []sheetSize{{1, 1}, {2, 1}, {1, 2}} {
		for _, f := range smallForms(size) {
			if want := isValidForm(f); impl.IsForm(f) != want {
				t.Errorf("IsForm(%v) = %t", f, !want)
			}
		}
	}
	for _, size := range allSheets() {
		cells := size.wide * size.high
		for seed := range int64(8) {
			for _, first := range []int64{1, 2, 100, impl.MaxNumber - 2*cells, impl.MaxNumber - 2*cells + 1, impl.MaxNumber - 1, impl.MaxNumber} {
				if f := mixedForm(size, first, seed); !impl.IsForm(f) || !isValidForm(f) {
					t.Errorf("IsForm(%v) = false", f)
				}
			}
			for _, first := range []int64{0, -1, -2 * cells, -2*cells + 1, impl.MaxNumber + 1, -impl.MaxNumber, math.MaxInt64 - 2*cells + 1, math.MaxInt64, math.MinInt64} {
				if f := mixedForm(size, first, seed); impl.IsForm(f) {
					t.Errorf("IsForm(%v) = true", f)
				}
			}
		}
	}
	for _, f := range invalidForms() {
		if impl.IsForm(f) || isValidForm(f) {
			t.Errorf("IsForm(%v) = %t, by its definition %t", f, impl.IsForm(f), isValidForm(f))
		}
	}
}

// TestIsFormOfOtherSheets gives the lists of one sheet to all others.
func TestIsFormOfOtherSheets(t *testing.T) {
	for _, size := range allSheets() {
		for _, other := range allSheets() {
			f := mixedForm(size, 1, 2)
			f.Wide, f.High = other.wide, other.high
			if want := size.wide*size.high == other.wide*other.high; impl.IsForm(f) != want {
				t.Errorf("IsForm(%v) = %t", f, !want)
			}
		}
	}
}

// TestIsFormWithOtherPages puts each page out of the run in place of each other one: the form stays
// valid only if the page that is left out is at the other end.
func TestIsFormWithOtherPages(t *testing.T) {
	for _, size := range []sheetSize{{1, 1}, {4, 2}, {8, 8}} {
		first, cells := int64(2), size.wide*size.high
		last := first + 2*cells - 1
		for i := range 2 * cells {
			for _, other := range []int64{first - 2, first - 1, first, first + cells, last, last + 1, last + 2} {
				f := mixedForm(size, first, 3)
				place := &f.Front[i%cells]
				if i >= cells {
					place = &f.Back[i%cells]
				}
				left := *place
				*place = other
				want := left == other || left == first && other == last+1 || left == last && other == first-1
				if impl.IsForm(f) != want || isValidForm(f) != want {
					t.Errorf("IsForm(%v) = %t; %d stands for %d", f, !want, other, left)
				}
			}
		}
	}
}

func TestPlaceOfPage(t *testing.T) {
	f := impl.Form{
		Wide: 4, High: 2, Heads: []int64{1, 1, 1, 1, 0, 0, 0, 0},
		Front: []int64{11, 6, 7, 10, 14, 3, 2, 15}, Back: []int64{9, 8, 5, 12, 16, 1, 4, 13},
	}
	for page, want := range [][3]int64{
		{1, 2, 1}, {0, 2, 1}, {0, 1, 1}, {1, 1, 1}, {1, 1, 0}, {0, 1, 0}, {0, 2, 0}, {1, 2, 0},
		{1, 3, 0}, {0, 3, 0}, {0, 0, 0}, {1, 0, 0}, {1, 0, 1}, {0, 0, 1}, {0, 3, 1}, {1, 3, 1},
	} {
		side, x, y, code := impl.PlaceOfPage(f, int64(page)+1)
		if [3]int64{side, x, y} != want || code != impl.ErrNone {
			t.Errorf("PlaceOfPage(%d) = %d, %d, %d, %d; want %v", page+1, side, x, y, code, want)
		}
	}
	for _, size := range allSheets() {
		cells := size.wide * size.high
		for i, first := range []int64{1, 2, 33, impl.MaxNumber - 2*cells + 1, impl.MaxNumber} {
			f := mixedForm(size, first, int64(i))
			checkPlaces(t, f)
			for _, page := range []int64{
				0, -1, -first, first - 1, first + 2*cells, -first - cells, first + 1<<32, first - 1<<32, -impl.MaxNumber,
				2 * impl.MaxNumber, math.MinInt64, math.MaxInt64,
			} {
				if side, x, y, code := impl.PlaceOfPage(f, page); side != 0 || x != 0 || y != 0 || code != impl.ErrNotFound {
					t.Errorf("PlaceOfPage(%v, %d) = %d, %d, %d, %d", f, page, side, x, y, code)
				}
			}
		}
	}
}

// checkPlaces looks on a printed sheet for all pages of a form.
func checkPlaces(t *testing.T, f impl.Form) {
	t.Helper()
	for row, piles := range printedSheet(f) {
		for column, pile := range piles {
			for side, page := range []int64{pile[0].up, pile[0].down} {
				gotSide, x, y, code := impl.PlaceOfPage(f, max(page, -page))
				if gotSide != int64(side) || x != int64(column) || y != int64(row) || code != impl.ErrNone {
					t.Errorf("PlaceOfPage(%v, %d) = %d, %d, %d, %d; want %d, %d, %d", f, max(page, -page), gotSide, x, y, code, side, column, row)
				}
			}
		}
	}
}

func TestShiftForm(t *testing.T) {
	for _, size := range allSheets() {
		for _, c := range []struct{ first, by, code int64 }{
			{1, 0, impl.ErrNone}, {1, 1, impl.ErrNone}, {1, 16, impl.ErrNone}, {1, impl.MaxNumber - 1, impl.ErrNone},
			{1, -1, impl.ErrLimit}, {1, -2, impl.ErrLimit}, {1, -impl.MaxNumber, impl.ErrLimit}, {1, impl.MaxNumber, impl.ErrLimit},
			{2, -1, impl.ErrNone}, {2, -2, impl.ErrLimit}, {2, impl.MaxNumber - 2, impl.ErrNone}, {2, impl.MaxNumber - 1, impl.ErrLimit},
			{500, -499, impl.ErrNone}, {500, -500, impl.ErrLimit}, {500, -600, impl.ErrLimit},
			{impl.MaxNumber, 0, impl.ErrNone}, {impl.MaxNumber, 1, impl.ErrLimit}, {impl.MaxNumber, impl.MaxNumber, impl.ErrLimit},
			{impl.MaxNumber, 1 - impl.MaxNumber, impl.ErrNone}, {impl.MaxNumber, -impl.MaxNumber, impl.ErrLimit},
			{1, impl.MaxNumber + 1, impl.ErrRange}, {1, -impl.MaxNumber - 1, impl.ErrRange},
			{impl.MaxNumber, impl.MaxNumber + 1, impl.ErrRange}, {impl.MaxNumber, -impl.MaxNumber - 1, impl.ErrRange},
			{1, 1 << 32, impl.ErrRange}, {1, -1 << 32, impl.ErrRange}, {1, 1 << 62, impl.ErrRange},
			{1, math.MaxInt64, impl.ErrRange}, {1, math.MinInt64, impl.ErrRange}, {5, math.MinInt64 + 1, impl.ErrRange},
		} {
			f := mixedForm(size, c.first, 6)
			var want impl.Form
			if c.code == impl.ErrNone {
				want = mixedForm(size, c.first+c.by, 6)
			}
			if got, code := impl.ShiftForm(f, c.by); !sameForm(got, want) || code != c.code {
				t.Errorf("ShiftForm(%v, %d) = %v, %d; want %v, %d", f, c.by, got, code, want, c.code)
			}
		}
	}
}

// TestTurnForm also turns printed sheets over like pages, folds them by hand and compares what is
// read with what is read of the turned form.
func TestTurnForm(t *testing.T) {
	for _, c := range []struct{ f, want impl.Form }{
		{
			impl.Form{Wide: 1, High: 1, Front: []int64{4}, Back: []int64{5}, Heads: []int64{1}},
			impl.Form{Wide: 1, High: 1, Front: []int64{5}, Back: []int64{4}, Heads: []int64{1}},
		},
		{
			impl.Form{Wide: 2, High: 1, Front: []int64{3, 2}, Back: []int64{1, 4}, Heads: []int64{0, 1}},
			impl.Form{Wide: 2, High: 1, Front: []int64{1, 4}, Back: []int64{3, 2}, Heads: []int64{1, 0}},
		},
		{
			impl.Form{Wide: 1, High: 2, Front: []int64{2, 3}, Back: []int64{1, 4}, Heads: []int64{1, 0}},
			impl.Form{Wide: 1, High: 2, Front: []int64{1, 4}, Back: []int64{2, 3}, Heads: []int64{1, 0}},
		},
		{
			impl.Form{Wide: 4, High: 2, Front: []int64{1, 2, 3, 4, 5, 6, 7, 8}, Back: []int64{9, 10, 11, 12, 13, 14, 15, 16}, Heads: []int64{1, 1, 0, 1, 0, 0, 0, 1}},
			impl.Form{Wide: 4, High: 2, Front: []int64{9, 10, 11, 12, 13, 14, 15, 16}, Back: []int64{1, 2, 3, 4, 5, 6, 7, 8}, Heads: []int64{1, 0, 1, 1, 1, 0, 0, 0}},
		},
	} {
		if got, code := impl.TurnForm(c.f); !sameForm(got, c.want) || code != impl.ErrNone {
			t.Errorf("TurnForm(%v) = %v, %d; want %v", c.f, got, code, c.want)
		}
	}
	for _, size := range allSheets() {
		for i, scheme := range someSchemes(size) {
			f := mixedForm(size, int64(i)+1, int64(i))
			turned, code := impl.TurnForm(f)
			if !isValidForm(turned) || code != impl.ErrNone {
				t.Fatalf("TurnForm(%v) = %v, %d", f, turned, code)
			}
			sheet := printedSheet(f)
			for _, row := range sheet {
				slices.Reverse(row)
				for _, pile := range row {
					pile[0].up, pile[0].down = pile[0].down, pile[0].up
				}
			}
			if want, got := pagesOf(sheet, scheme), readByHand(turned, scheme); !slices.Equal(got, want) {
				t.Errorf("TurnForm(%v) = %v, of which %v are read; want %v", f, turned, got, want)
			}
			if back, code := impl.TurnForm(turned); !sameForm(back, f) || code != impl.ErrNone {
				t.Errorf("TurnForm(%v) = %v, and of that %v, %d", f, turned, back, code)
			}
		}
	}
}

// TestInvalidForms checks that ErrInvalid comes before all other errors.
func TestInvalidForms(t *testing.T) {
	for _, f := range invalidForms() {
		for _, scheme := range []string{"", "L", "LT", "LLT", "LLLTTT", "x", "LLLLTTTT"} {
			if got, code := impl.ReadForm(f, scheme); len(got) != 0 || code != impl.ErrInvalid {
				t.Errorf("ReadForm(%v, %q) = %v, %d", f, scheme, got, code)
			}
			if got, code := impl.IsRightForm(f, scheme); got || code != impl.ErrInvalid {
				t.Errorf("IsRightForm(%v, %q) = %t, %d", f, scheme, got, code)
			}
		}
		for _, number := range []int64{0, 1, 3, -1, -4, impl.MaxNumber, impl.MaxNumber + 1, -impl.MaxNumber - 1, math.MinInt64} {
			if side, x, y, code := impl.PlaceOfPage(f, number); side != 0 || x != 0 || y != 0 || code != impl.ErrInvalid {
				t.Errorf("PlaceOfPage(%v, %d) = %d, %d, %d, %d", f, number, side, x, y, code)
			}
			if got, code := impl.ShiftForm(f, number); !isZeroForm(got) || code != impl.ErrInvalid {
				t.Errorf("ShiftForm(%v, %d) = %v, %d", f, number, got, code)
			}
		}
		if got, code := impl.TurnForm(f); !isZeroForm(got) || code != impl.ErrInvalid {
			t.Errorf("TurnForm(%v) = %v, %d", f, got, code)
		}
		if got, code := impl.SchemesFor(f); len(got) != 0 || code != impl.ErrInvalid {
			t.Errorf("SchemesFor(%v) = %q, %d", f, got, code)
		}
	}
}

func TestImposeNoSheet(t *testing.T) {
	for _, size := range notSheets() {
		for _, scheme := range []string{"", "L", "LLT", "LLLTTT", "x"} {
			if got, code := impl.ImposeSheet(size.wide, size.high, scheme); !isZeroForm(got) || code != impl.ErrInvalid {
				t.Errorf("ImposeSheet(%v, %q) = %v, %d", size, scheme, got, code)
			}
		}
	}
}

// TestFormsWithWrongSchemes checks the errors of strings that are no schemes, and of schemes for
// another sheet.
func TestFormsWithWrongSchemes(t *testing.T) {
	for _, size := range allSheets() {
		f := mixedForm(size, 1, 1)
		wrong := wrongSchemes(size)
		for _, other := range allSheets() {
			if other != size {
				wrong = append(wrong, listedSchemes(other)[0])
			}
		}
		for _, scheme := range wrong {
			if got, code := impl.ImposeSheet(size.wide, size.high, scheme); !isZeroForm(got) || code != impl.ErrRange {
				t.Errorf("ImposeSheet(%v, %q) = %v, %d", size, shortName(scheme), got, code)
			}
			if got, code := impl.ReadForm(f, scheme); len(got) != 0 || code != impl.ErrRange {
				t.Errorf("ReadForm(%v, %q) = %v, %d", f, shortName(scheme), got, code)
			}
			if got, code := impl.IsRightForm(f, scheme); got || code != impl.ErrRange {
				t.Errorf("IsRightForm(%v, %q) = %t, %d", f, shortName(scheme), got, code)
			}
		}
	}
}

// TestFormsAreNotShared checks that no function changes a form or the memory behind its lists, and
// that results are new memory, each list of its own.
func TestFormsAreNotShared(t *testing.T) {
	spare := func(list []int64) []int64 { return append(slices.Clone(list), 77, 77, 77)[:len(list)] }
	want, _ := impl.ImposeSheet(4, 2, "LTL")
	f := impl.Form{Wide: 4, High: 2, Front: spare(want.Front), Back: spare(want.Back), Heads: spare(want.Heads)}
	for range 2 {
		impl.IsForm(f)
		impl.IsRightForm(f, "LTL")
		impl.PlaceOfPage(f, 5)
		pages, _ := impl.ReadForm(f, "LTL")
		schemes, _ := impl.SchemesFor(f)
		imposed, _ := impl.ImposeSheet(4, 2, "LTL")
		shifted, _ := impl.ShiftForm(f, 0)
		turned, _ := impl.TurnForm(f)
		back, _ := impl.TurnForm(turned)
		if !isRunUpright(pages, 1) || !slices.Equal(schemes, []string{"LTL"}) || !sameForm(imposed, want) || !sameForm(shifted, want) || !sameForm(back, want) {
			t.Errorf("%v, %q, %v, %v, %v", pages, schemes, imposed, shifted, back)
		}
		clear(pages)
		clear(schemes)
		for _, g := range []impl.Form{imposed, shifted, turned} {
			lists := [][]int64{g.Front, g.Back, g.Heads}
			for i, list := range lists {
				for j := range list {
					list[j] = int64(-5 - i)
				}
			}
			for _, list := range lists {
				_ = append(list, -9, -9, -9)
			}
			if !slices.Equal(g.Front, slices.Repeat([]int64{-5}, 8)) || !slices.Equal(g.Back, slices.Repeat([]int64{-6}, 8)) || !slices.Equal(g.Heads, slices.Repeat([]int64{-7}, 8)) {
				t.Errorf("lists of a result share memory: %v", g)
			}
		}
	}
	if !sameForm(f, want) {
		t.Errorf("the form has become %v", f)
	}
	for _, list := range [][]int64{f.Front, f.Back, f.Heads} {
		if !slices.Equal(list[8:11], []int64{77, 77, 77}) {
			t.Errorf("behind the form lies %v", list[8:11])
		}
	}
}
