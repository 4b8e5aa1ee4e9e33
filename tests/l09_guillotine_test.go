package tests

import (
	"math"
	"regexp"
	"slices"
	"strconv"
	"strings"
	"testing"

	"loop.example/g00944/impl"
)

// placedPiece is a piece with the place of its upper left corner on the sheet that is cut.
type placedPiece struct {
	x, y int64
	impl.Piece
}

// notPieces returns pieces that are not valid, each for one reason or for both.
func notPieces() []impl.Piece {
	list := []impl.Piece{{}, {Wide: 0, High: 20001}, {Wide: -3, High: -4}, {Wide: 20001, High: 20001}}
	for _, side := range outOf(1, impl.MaxSheet) {
		list = append(list, impl.Piece{Wide: side, High: 1}, impl.Piece{Wide: 20000, High: side})
	}
	return list
}

// somePieces returns n valid pieces, of which no two are equal, for n up to 199.
func somePieces(n int) []impl.Piece {
	list := make([]impl.Piece, 0, n)
	for i := range int64(n) {
		list = append(list, impl.Piece{Wide: 3 + i, High: 202 - i})
	}
	return list
}

// spareCopy returns a copy of a list with something in the capacity behind it.
func spareCopy[T any](list []T, spare T) []T {
	return append(slices.Clone(list), spare, spare, spare)[:len(list)]
}

// keptSpare reports whether a list that spareCopy has made is as it was, with what is behind it.
func keptSpare[T comparable](list []T, want []T, spare T) bool {
	return slices.Equal(list, want) && slices.Equal(list[len(want):len(want)+3], []T{spare, spare, spare})
}

// cutPlaced does a cut and leaves both parts where they lie on the sheet. It returns false if one
// part would have nothing, if there is no such piece, or if there are already as many as allowed.
func cutPlaced(list []placedPiece, c impl.Cut) ([]placedPiece, bool) {
	if len(list) >= 80 || c.Index < 0 || c.Index >= int64(len(list)) || c.At < 1 {
		return nil, false
	}
	first, second := list[c.Index], list[c.Index]
	if c.Across {
		first.High = c.At
		second.y = first.y + c.At
		second.High = list[c.Index].y + list[c.Index].High - second.y
	} else {
		first.Wide = c.At
		second.x = first.x + c.At
		second.Wide = list[c.Index].x + list[c.Index].Wide - second.x
	}
	if second.Wide < 1 || second.High < 1 {
		return nil, false
	}
	var result []placedPiece
	for i, p := range list {
		if int64(i) == c.Index {
			result = append(result, first, second)
		} else {
			result = append(result, p)
		}
	}
	return result, true
}

// withoutPlaces returns the pieces of a list of placed ones.
func withoutPlaces(list []placedPiece) []impl.Piece {
	var result []impl.Piece
	for _, p := range list {
		result = append(result, p.Piece)
	}
	return result
}

// coversSheet reports whether placed pieces lie on a sheet beside one another and leave nothing of
// it uncovered.
func coversSheet(list []placedPiece, sheet impl.Piece) bool {
	left := sheet.Wide * sheet.High
	for i, p := range list {
		if p.x < 0 || p.y < 0 || p.x+p.Wide > sheet.Wide || p.y+p.High > sheet.High {
			return false
		}
		left -= p.Wide * p.High
		for _, q := range list[:i] {
			if p.x < q.x+q.Wide && q.x < p.x+p.Wide && p.y < q.y+q.High && q.y < p.y+p.High {
				return false
			}
		}
	}
	return left == 0
}

// runByHand returns what RunCuts is to return for a valid piece and at most MaxCuts cuts.
func runByHand(t *testing.T, p impl.Piece, program []impl.Cut) ([]impl.Piece, int64) {
	t.Helper()
	list := []placedPiece{{Piece: p}}
	for _, c := range program {
		var ok bool
		if list, ok = cutPlaced(list, c); !ok {
			return nil, impl.ErrState
		}
	}
	if !coversSheet(list, p) {
		t.Fatalf("the pieces %v do not cover %v", list, p)
	}
	return withoutPlaces(list), impl.ErrNone
}

// checkRun checks what RunCuts returns, and that no area is lost and each cut makes one piece more.
func checkRun(t *testing.T, p impl.Piece, program []impl.Cut) {
	t.Helper()
	want, wantCode := runByHand(t, p, program)
	got, code := impl.RunCuts(p, program)
	if !slices.Equal(got, want) || code != wantCode {
		t.Fatalf("RunCuts(%v, %v) = %v, %d; want %v, %d", p, program, got, code, want, wantCode)
	}
	if code != impl.ErrNone {
		return
	}
	if len(got) != len(program)+1 {
		t.Fatalf("RunCuts(%v, %v) has %d pieces", p, program, len(got))
	}
	if area, code := impl.AreaOf(got); area != p.Wide*p.High || code != impl.ErrNone {
		t.Fatalf("AreaOf(%v) = %d, %d; they were cut from %v", got, area, code, p)
	}
}

// checkMake checks what CanCut and MakeCut say of a cut of valid pieces.
func checkMake(t *testing.T, list []impl.Piece, c impl.Cut) {
	t.Helper()
	var placed []placedPiece
	for _, p := range list {
		placed = append(placed, placedPiece{Piece: p})
	}
	after, ok := cutPlaced(placed, c)
	want, wantCode := withoutPlaces(after), int64(impl.ErrNone)
	if !ok {
		wantCode = impl.ErrState
	}
	if got := impl.CanCut(list, c); got != ok {
		t.Fatalf("CanCut(%v, %v) = %v", list, c, got)
	}
	if got, code := impl.MakeCut(list, c); !slices.Equal(got, want) || code != wantCode {
		t.Fatalf("MakeCut(%v, %v) = %v, %d; want %v, %d", list, c, got, code, want, wantCode)
	}
}

// checkNoCut checks that a cut of some pieces has an error.
func checkNoCut(t *testing.T, list []impl.Piece, c impl.Cut, want int64) {
	t.Helper()
	if impl.CanCut(list, c) {
		t.Errorf("CanCut(%v, %v)", list, c)
	}
	if got, code := impl.MakeCut(list, c); got != nil || code != want {
		t.Errorf("MakeCut(%v, %v) = %v, %d; want %d", list, c, got, code, want)
	}
}

// manyCuts returns a program with n cuts, n up to MaxCuts, that are all possible for a piece with
// sides of 20000. The seed tells which pieces are cut, and where.
func manyCuts(n int, seed int64) []impl.Cut {
	list := []placedPiece{{Piece: impl.Piece{Wide: 20000, High: 20000}}}
	var program []impl.Cut
	for len(program) < n {
		seed = (seed*1103515245 + 12345) % (1 << 31)
		c := impl.Cut{Index: seed / 65536 % int64(len(list)), Across: seed/256%2 == 1}
		side := list[c.Index].Wide
		if c.Across {
			side = list[c.Index].High
		}
		c.At = 1 + seed/1024%max(1, side-1)
		if after, ok := cutPlaced(list, c); ok {
			list, program = after, append(program, c)
		}
	}
	return program
}

// repeatedCut returns a program with the same cut n times.
func repeatedCut(c impl.Cut, n int) []impl.Cut {
	return slices.Repeat([]impl.Cut{c}, n)
}

// gridLines returns where a side is cut to get n parts of a length: behind each part, but not
// behind the last one if the side ends there or before.
func gridLines(side int64, n int64, part int64) []int64 {
	var lines []int64
	for k := int64(1); k < n; k++ {
		lines = append(lines, k*part)
	}
	if n*part < side {
		lines = append(lines, n*part)
	}
	return lines
}

// gridByHand returns what GridCuts is to return for valid pieces and a and c in their ranges. It
// finds each piece that is to be cut by its place on the sheet.
func gridByHand(t *testing.T, p impl.Piece, a int64, c int64, q impl.Piece) ([]impl.Cut, int64) {
	t.Helper()
	across, along := gridLines(p.Wide, a, q.Wide), gridLines(p.High, c, q.High)
	if int64(len(across))+a*int64(len(along)) > 79 {
		return nil, impl.ErrLimit
	}
	if p.Wide < a*q.Wide || p.High < c*q.High {
		return nil, impl.ErrState
	}
	list := []placedPiece{{Piece: p}}
	var program []impl.Cut
	do := func(isCut func(r placedPiece) bool, next impl.Cut) {
		next.Index = int64(slices.IndexFunc(list, isCut))
		after, ok := cutPlaced(list, next)
		if !ok {
			t.Fatalf("the cut %v of %v is not possible", next, list)
		}
		list, program = after, append(program, next)
	}
	for _, x := range across {
		do(func(r placedPiece) bool { return r.x == x-q.Wide && r.Wide > q.Wide }, impl.Cut{At: q.Wide})
	}
	for column := range a {
		for _, y := range along {
			do(func(r placedPiece) bool { return r.x == column*q.Wide && r.y == y-q.High }, impl.Cut{Across: true, At: q.High})
		}
	}
	return program, impl.ErrNone
}

// gridPieces returns the pieces that the cuts of a grid leave: column by column its pieces from the
// top to the bottom with what is left below, and what is left at the right.
func gridPieces(p impl.Piece, a int64, c int64, q impl.Piece) []impl.Piece {
	var list []impl.Piece
	for range a {
		for range c {
			list = append(list, q)
		}
		if below := p.High - c*q.High; below > 0 {
			list = append(list, impl.Piece{Wide: q.Wide, High: below})
		}
	}
	if right := p.Wide - a*q.Wide; right > 0 {
		list = append(list, impl.Piece{Wide: right, High: p.High})
	}
	return list
}

// checkGridCuts checks the cuts of a grid and the pieces that they leave.
func checkGridCuts(t *testing.T, p impl.Piece, a int64, c int64, q impl.Piece) {
	t.Helper()
	want, wantCode := gridByHand(t, p, a, c, q)
	program, code := impl.GridCuts(p, a, c, q)
	if !slices.Equal(program, want) || code != wantCode {
		t.Fatalf("GridCuts(%v, %d, %d, %v) = %v, %d; want %v, %d", p, a, c, q, program, code, want, wantCode)
	}
	if code != impl.ErrNone {
		return
	}
	list, code := impl.RunCuts(p, program)
	if !slices.Equal(list, gridPieces(p, a, c, q)) || code != impl.ErrNone {
		t.Fatalf("the cuts of the grid %d, %d of %v in %v leave %v, %d", a, c, q, p, list, code)
	}
}

// checkNoGrid checks that a grid has an error.
func checkNoGrid(t *testing.T, p impl.Piece, a int64, c int64, q impl.Piece, want int64) {
	t.Helper()
	if program, code := impl.GridCuts(p, a, c, q); program != nil || code != want {
		t.Errorf("GridCuts(%v, %d, %d, %v) = %v, %d; want %d", p, a, c, q, program, code, want)
	}
}

// cutPattern matches the text of one cut, whatever its numbers.
var cutPattern = regexp.MustCompile(`^(0|[1-9][0-9]*)([|-])(0|[1-9][0-9]*)$`)

// readByPattern returns what ReadProgram is to return.
func readByPattern(s string) ([]impl.Cut, bool) {
	if s == "" {
		return nil, true
	}
	var program []impl.Cut
	for _, word := range strings.Split(s, " ") {
		parts := cutPattern.FindStringSubmatch(word)
		if parts == nil || len(parts[1]) > 5 || len(parts[3]) > 5 || len(program) == 79 {
			return nil, false
		}
		index, _ := strconv.Atoi(parts[1])
		at, _ := strconv.Atoi(parts[3])
		if index > 20000 || at > 20000 {
			return nil, false
		}
		program = append(program, impl.Cut{Index: int64(index), Across: parts[2] == "-", At: int64(at)})
	}
	return program, true
}

// checkProgramReading checks whether a string is read as a program, and that what is read has this
// text.
func checkProgramReading(t *testing.T, s string) {
	t.Helper()
	want, wantOk := readByPattern(s)
	got, ok := impl.ReadProgram(s)
	if !slices.Equal(got, want) || ok != wantOk {
		t.Fatalf("ReadProgram(%q) = %v, %v; want %v, %v", s, got, ok, want, wantOk)
	}
	if ok && impl.ProgramText(got) != s {
		t.Fatalf("ReadProgram(%q) has the text %q", s, impl.ProgramText(got))
	}
}

// checkProgramText checks the text of a program, and that it leads back.
func checkProgramText(t *testing.T, program []impl.Cut, want string) {
	t.Helper()
	if s := impl.ProgramText(program); s != want {
		t.Errorf("ProgramText(%v) = %q; want %q", program, s, want)
	}
	if got, ok := impl.ReadProgram(want); !slices.Equal(got, program) || !ok {
		t.Errorf("ReadProgram(%q) = %v, %v; want %v", want, got, ok, program)
	}
}

func TestIsPiece(t *testing.T) {
	for _, wide := range []int64{1, 2, 210, 19999, impl.MaxSheet} {
		for _, high := range []int64{1, 2, 297, 19999, impl.MaxSheet} {
			if p := (impl.Piece{Wide: wide, High: high}); !impl.IsPiece(p) {
				t.Errorf("IsPiece(%v) = false", p)
			}
		}
	}
	for _, p := range notPieces() {
		if impl.IsPiece(p) {
			t.Errorf("IsPiece(%v) = true", p)
		}
	}
	if impl.MaxPieces != 80 || impl.MaxCuts != 79 {
		t.Errorf("MaxPieces and MaxCuts are %d and %d", impl.MaxPieces, impl.MaxCuts)
	}
}

func TestMakeCut(t *testing.T) {
	a, b, c := impl.Piece{Wide: 10, High: 6}, impl.Piece{Wide: 2, High: 2}, impl.Piece{Wide: 20000, High: 20000}
	for _, x := range []struct {
		list []impl.Piece
		cut  impl.Cut
		want []impl.Piece
	}{
		{[]impl.Piece{a}, impl.Cut{Index: 0, At: 4}, []impl.Piece{{Wide: 4, High: 6}, {Wide: 6, High: 6}}},
		{[]impl.Piece{a}, impl.Cut{Index: 0, Across: true, At: 4}, []impl.Piece{{Wide: 10, High: 4}, {Wide: 10, High: 2}}},
		{[]impl.Piece{a, b, c}, impl.Cut{Index: 0, At: 9}, []impl.Piece{{Wide: 9, High: 6}, {Wide: 1, High: 6}, b, c}},
		{[]impl.Piece{a, b, c}, impl.Cut{Index: 0, Across: true, At: 5}, []impl.Piece{{Wide: 10, High: 5}, {Wide: 10, High: 1}, b, c}},
		{[]impl.Piece{a, b, c}, impl.Cut{Index: 1, At: 1}, []impl.Piece{a, {Wide: 1, High: 2}, {Wide: 1, High: 2}, c}},
		{[]impl.Piece{a, b, c}, impl.Cut{Index: 1, Across: true, At: 1}, []impl.Piece{a, {Wide: 2, High: 1}, {Wide: 2, High: 1}, c}},
		{[]impl.Piece{a, b, c}, impl.Cut{Index: 2, At: 1}, []impl.Piece{a, b, {Wide: 1, High: 20000}, {Wide: 19999, High: 20000}}},
		{[]impl.Piece{a, b, c}, impl.Cut{Index: 2, Across: true, At: 19999}, []impl.Piece{a, b, {Wide: 20000, High: 19999}, {Wide: 20000, High: 1}}},
	} {
		if !impl.CanCut(x.list, x.cut) {
			t.Errorf("CanCut(%v, %v) = false", x.list, x.cut)
		}
		if got, code := impl.MakeCut(x.list, x.cut); !slices.Equal(got, x.want) || code != impl.ErrNone {
			t.Errorf("MakeCut(%v, %v) = %v, %d; want %v", x.list, x.cut, got, code, x.want)
		}
	}
}

// TestCutsOfAllLists checks cuts of every piece of short and long lists, at all places near the
// first and the last possible one, and of pieces that there are not.
func TestCutsOfAllLists(t *testing.T) {
	for _, n := range []int{0, 1, 2, 3, 40, 78, 79, 80} {
		list := somePieces(n)
		for index := int64(-2); index <= int64(n)+1; index++ {
			var p impl.Piece
			if index >= 0 && index < int64(n) {
				p = list[index]
			}
			for _, at := range []int64{-1, 0, 1, 2, 50, p.Wide - 1, p.Wide, p.Wide + 1, p.High - 1, p.High, p.High + 1, 20000} {
				checkMake(t, list, impl.Cut{Index: index, At: at})
				checkMake(t, list, impl.Cut{Index: index, Across: true, At: at})
			}
		}
	}
}

// TestImpossibleCuts checks numbers that are far from those of a possible cut, and pieces of which
// one side cannot be divided.
func TestImpossibleCuts(t *testing.T) {
	list := []impl.Piece{{Wide: 5, High: 7}, {Wide: 7, High: 5}, {Wide: 1, High: 20000}, {Wide: 20000, High: 1}}
	for _, across := range []bool{false, true} {
		for _, index := range outOf(0, 3) {
			checkNoCut(t, list, impl.Cut{Index: index, Across: across, At: 1}, impl.ErrState)
			checkNoCut(t, list, impl.Cut{Index: index, Across: across, At: index}, impl.ErrState)
		}
		for _, at := range outOf(1, 6) {
			for index := range int64(2) {
				checkNoCut(t, list, impl.Cut{Index: index, Across: across, At: at}, impl.ErrState)
			}
		}
		for _, at := range []int64{0, 1, 2} {
			checkNoCut(t, list, impl.Cut{Index: 2, At: at}, impl.ErrState)
			checkNoCut(t, list, impl.Cut{Index: 3, Across: true, At: at}, impl.ErrState)
			checkNoCut(t, nil, impl.Cut{Across: across, At: at}, impl.ErrState)
			checkNoCut(t, []impl.Piece{}, impl.Cut{Index: -1, Across: across, At: at}, impl.ErrState)
			checkNoCut(t, somePieces(80), impl.Cut{Index: 79, Across: across, At: at}, impl.ErrState)
		}
	}
	checkNoCut(t, list, impl.Cut{Index: 0, At: 5}, impl.ErrState)
	checkNoCut(t, list, impl.Cut{Index: 0, Across: true, At: 7}, impl.ErrState)
	checkMake(t, list, impl.Cut{Index: 0, At: 4})
	checkMake(t, list, impl.Cut{Index: 0, Across: true, At: 6})
	checkMake(t, list, impl.Cut{Index: 2, Across: true, At: 19999})
	checkMake(t, list, impl.Cut{Index: 3, At: 19999})
}

// TestInvalidPieceLists checks lists with a piece that is not valid at any place, and lists that are too
// long: ErrInvalid comes before ErrState.
func TestInvalidPieceLists(t *testing.T) {
	var lists [][]impl.Piece
	for _, wrong := range notPieces() {
		for _, n := range []int{1, 2, 5, 80} {
			for _, place := range []int{0, n / 2, n - 1} {
				list := somePieces(n)
				list[place] = wrong
				lists = append(lists, list)
			}
		}
	}
	lists = append(lists, somePieces(81), somePieces(82), somePieces(160), slices.Repeat(notPieces()[:1], 81), slices.Repeat(notPieces()[:1], 336))
	for _, list := range lists {
		for _, c := range []impl.Cut{{At: 1}, {Across: true, At: 1}, {Index: int64(len(list)) - 1, At: 1}, {}, {Index: -1, At: 1}, {Index: 400, Across: true, At: 1}} {
			checkNoCut(t, list, c, impl.ErrInvalid)
		}
		if area, code := impl.AreaOf(list); area != 0 || code != impl.ErrInvalid {
			t.Errorf("AreaOf(%v) = %d, %d", list, area, code)
		}
		for _, p := range []impl.Piece{{Wide: 3, High: 202}, list[0], {}} {
			if n, code := impl.CountPieces(list, p); n != 0 || code != impl.ErrInvalid {
				t.Errorf("CountPieces(%v, %v) = %d, %d", list, p, n, code)
			}
		}
	}
}

func TestRunCuts(t *testing.T) {
	sheet := impl.Piece{Wide: 10, High: 6}
	for _, x := range []struct {
		program []impl.Cut
		want    []impl.Piece
		code    int64
	}{
		{nil, []impl.Piece{sheet}, impl.ErrNone},
		{[]impl.Cut{}, []impl.Piece{sheet}, impl.ErrNone},
		{[]impl.Cut{{At: 4}, {Index: 1, Across: true, At: 2}, {Across: true, At: 5}}, []impl.Piece{{Wide: 4, High: 5}, {Wide: 4, High: 1}, {Wide: 6, High: 2}, {Wide: 6, High: 4}}, impl.ErrNone},
		{[]impl.Cut{{At: 4}, {At: 3}, {At: 2}}, []impl.Piece{{Wide: 2, High: 6}, {Wide: 1, High: 6}, {Wide: 1, High: 6}, {Wide: 6, High: 6}}, impl.ErrNone},
		// The second cut finds no piece, a side that is too short, or no second part.
		{[]impl.Cut{{At: 4}, {Index: 2, At: 1}}, nil, impl.ErrState},
		{[]impl.Cut{{At: 4}, {Index: 0, At: 5}}, nil, impl.ErrState},
		{[]impl.Cut{{At: 4}, {Index: 0, At: 4}}, nil, impl.ErrState},
		{[]impl.Cut{{At: 4}, {Index: 1, Across: true, At: 6}}, nil, impl.ErrState},
		// What comes behind a cut that is not possible does not matter.
		{[]impl.Cut{{Index: 1, At: 4}, {Index: 0, At: 4}}, nil, impl.ErrState},
		{[]impl.Cut{{At: 0}}, nil, impl.ErrState},
		{[]impl.Cut{{At: 4}, {Index: -1, At: 1}, {At: 1}}, nil, impl.ErrState},
	} {
		got, code := impl.RunCuts(sheet, x.program)
		if !slices.Equal(got, x.want) || code != x.code {
			t.Errorf("RunCuts(%v, %v) = %v, %d; want %v, %d", sheet, x.program, got, code, x.want, x.code)
		}
	}
}

// TestAllShortPrograms checks all programs of up to three cuts of small pieces, with cuts that are
// not possible at any place.
func TestAllShortPrograms(t *testing.T) {
	var cuts []impl.Cut
	for index := int64(-1); index <= 3; index++ {
		for at := int64(0); at <= 3; at++ {
			cuts = append(cuts, impl.Cut{Index: index, At: at}, impl.Cut{Index: index, Across: true, At: at})
		}
	}
	for code := range int64(9) {
		p := impl.Piece{Wide: 1 + code%3, High: 1 + code/3}
		checkRun(t, p, nil)
		for _, first := range cuts {
			checkRun(t, p, []impl.Cut{first})
			for _, second := range cuts {
				checkRun(t, p, []impl.Cut{first, second})
				for _, third := range cuts {
					checkRun(t, p, []impl.Cut{first, second, third})
				}
			}
		}
	}
}

// TestLongPrograms checks programs of many cuts, cut by cut, and with one cut in them that is not
// possible.
func TestLongPrograms(t *testing.T) {
	sheet := impl.Piece{Wide: 20000, High: 20000}
	for seed := range int64(20) {
		program := manyCuts(79, seed)
		list := []impl.Piece{sheet}
		for n, c := range program {
			checkRun(t, sheet, program[:n])
			checkMake(t, list, c)
			list, _ = impl.MakeCut(list, c)
		}
		checkRun(t, sheet, program)
		if got, code := impl.RunCuts(sheet, program); !slices.Equal(got, list) || len(got) != 80 || code != impl.ErrNone {
			t.Fatalf("RunCuts(%v, %v) = %v, %d; want %v", sheet, program, got, code, list)
		}
		for n := range program {
			changed := slices.Clone(program)
			changed[n].Index = int64(n) + 1
			checkRun(t, sheet, changed)
			changed[n].Index = int64(n)
			checkRun(t, sheet, changed)
			changed[n].At = 0
			checkRun(t, sheet, changed)
		}
	}
}

// TestRunCutsErrors checks that a piece that is not valid is told first, then too many cuts, and
// only then a cut that is not possible.
func TestRunCutsErrors(t *testing.T) {
	possible, impossible := impl.Cut{At: 1}, impl.Cut{Index: -1}
	check := func(p impl.Piece, program []impl.Cut, want int64) {
		t.Helper()
		if got, code := impl.RunCuts(p, program); got != nil || code != want {
			t.Errorf("RunCuts(%v, %v) = %v, %d; want %d", p, program, got, code, want)
		}
	}
	for _, p := range notPieces() {
		check(p, nil, impl.ErrInvalid)
		for _, n := range []int{1, 79, 80, 200} {
			check(p, repeatedCut(possible, n), impl.ErrInvalid)
			check(p, repeatedCut(impossible, n), impl.ErrInvalid)
		}
	}
	sheet := impl.Piece{Wide: 20000, High: 20000}
	for _, n := range []int{80, 81, 160, 335} {
		check(sheet, repeatedCut(impl.Cut{Across: true, At: 1}, n), impl.ErrLimit)
		check(sheet, repeatedCut(impossible, n), impl.ErrLimit)
		check(sheet, append(repeatedCut(impossible, n-79), manyCuts(79, 1)...), impl.ErrLimit)
		check(impl.Piece{Wide: 1, High: 1}, repeatedCut(possible, n), impl.ErrLimit)
	}
	check(sheet, repeatedCut(impossible, 79), impl.ErrState)
	check(sheet, append(manyCuts(78, 1), impossible), impl.ErrState)
	check(sheet, append(manyCuts(78, 1), impl.Cut{Index: 79, At: 1}), impl.ErrState)
	check(impl.Piece{Wide: 1, High: 1}, repeatedCut(possible, 1), impl.ErrState)
	check(impl.Piece{Wide: 79, High: 1}, upwardCuts(79), impl.ErrState)
	if got, code := impl.RunCuts(impl.Piece{Wide: 80, High: 1}, upwardCuts(79)); len(got) != 80 || code != impl.ErrNone {
		t.Errorf("RunCuts with 79 cuts = %v, %d", got, code)
	}
}

// upwardCuts returns the program that takes n pieces with a width of 1 off one piece.
func upwardCuts(n int) []impl.Cut {
	program := make([]impl.Cut, n)
	for i := range program {
		program[i] = impl.Cut{Index: int64(i), At: 1}
	}
	return program
}

func TestAreaOf(t *testing.T) {
	greatest := impl.Piece{Wide: 20000, High: 20000}
	for _, x := range []struct {
		list []impl.Piece
		want int64
	}{
		{nil, 0}, {[]impl.Piece{}, 0}, {[]impl.Piece{{Wide: 1, High: 1}}, 1}, {[]impl.Piece{{Wide: 3, High: 5}}, 15},
		{[]impl.Piece{{Wide: 3, High: 5}, {Wide: 5, High: 3}, {Wide: 1, High: 20000}}, 20030},
		{[]impl.Piece{greatest}, 400000000}, {slices.Repeat([]impl.Piece{greatest}, 79), 31600000000},
		{slices.Repeat([]impl.Piece{greatest}, 80), 32000000000}, {slices.Repeat([]impl.Piece{{Wide: 1, High: 1}}, 80), 80},
	} {
		if got, code := impl.AreaOf(x.list); got != x.want || code != impl.ErrNone {
			t.Errorf("AreaOf(%v) = %d, %d; want %d", x.list, got, code, x.want)
		}
	}
}

func TestCountPieces(t *testing.T) {
	p := impl.Piece{Wide: 3, High: 5}
	for _, x := range []struct {
		list []impl.Piece
		want int64
	}{
		{nil, 0}, {[]impl.Piece{p}, 1}, {[]impl.Piece{p, p}, 2}, {slices.Repeat([]impl.Piece{p}, 80), 80},
		// A turned piece, and one that is equal in one side only, is another piece.
		{[]impl.Piece{{Wide: 5, High: 3}, {Wide: 3, High: 3}, {Wide: 5, High: 5}, {Wide: 3, High: 4}, {Wide: 2, High: 5}, {Wide: 15, High: 1}}, 0},
		{[]impl.Piece{p, {Wide: 5, High: 3}, p, {Wide: 3, High: 6}, {Wide: 4, High: 5}, p}, 3},
		{append(slices.Repeat([]impl.Piece{{Wide: 20000, High: 20000}}, 79), p), 1},
	} {
		if got, code := impl.CountPieces(x.list, p); got != x.want || code != impl.ErrNone {
			t.Errorf("CountPieces(%v, %v) = %d, %d; want %d", x.list, p, got, code, x.want)
		}
	}
	for _, wrong := range notPieces() {
		for _, list := range [][]impl.Piece{nil, {p}, {wrong}, {p, wrong}, somePieces(80), somePieces(81)} {
			if got, code := impl.CountPieces(list, wrong); got != 0 || code != impl.ErrInvalid {
				t.Errorf("CountPieces(%v, %v) = %d, %d", list, wrong, got, code)
			}
		}
	}
}

func TestGridCuts(t *testing.T) {
	for _, x := range []struct {
		p    impl.Piece
		a, c int64
		q    impl.Piece
		want string
	}{
		{impl.Piece{Wide: 7, High: 6}, 2, 2, impl.Piece{Wide: 3, High: 3}, "0|3 1|3 0-3 2-3"},
		{impl.Piece{Wide: 6, High: 6}, 2, 2, impl.Piece{Wide: 3, High: 3}, "0|3 0-3 2-3"},
		{impl.Piece{Wide: 6, High: 7}, 2, 2, impl.Piece{Wide: 3, High: 3}, "0|3 0-3 1-3 3-3 4-3"},
		{impl.Piece{Wide: 7, High: 7}, 2, 2, impl.Piece{Wide: 3, High: 3}, "0|3 1|3 0-3 1-3 3-3 4-3"},
		{impl.Piece{Wide: 10, High: 9}, 3, 1, impl.Piece{Wide: 2, High: 4}, "0|2 1|2 2|2 0-4 2-4 4-4"},
		{impl.Piece{Wide: 10, High: 9}, 1, 2, impl.Piece{Wide: 2, High: 4}, "0|2 0-4 1-4"},
		{impl.Piece{Wide: 2, High: 9}, 1, 2, impl.Piece{Wide: 2, High: 4}, "0-4 1-4"},
		{impl.Piece{Wide: 6, High: 4}, 3, 1, impl.Piece{Wide: 2, High: 4}, "0|2 1|2"},
		{impl.Piece{Wide: 3, High: 5}, 1, 1, impl.Piece{Wide: 3, High: 5}, ""},
		{impl.Piece{Wide: 20000, High: 20000}, 1, 1, impl.Piece{Wide: 20000, High: 20000}, ""},
		{impl.Piece{Wide: 20000, High: 20000}, 2, 1, impl.Piece{Wide: 10000, High: 19999}, "0|10000 0-19999 2-19999"},
	} {
		program, code := impl.GridCuts(x.p, x.a, x.c, x.q)
		if s := impl.ProgramText(program); s != x.want || code != impl.ErrNone {
			t.Errorf("GridCuts(%v, %d, %d, %v) = %q, %d; want %q", x.p, x.a, x.c, x.q, s, code, x.want)
		}
		checkGridCuts(t, x.p, x.a, x.c, x.q)
	}
}

// TestAllSmallGrids checks all small grids on all small pieces, also on such that are too small.
func TestAllSmallGrids(t *testing.T) {
	for code := range int64(8 * 8 * 3 * 3) {
		p := impl.Piece{Wide: 1 + code%8, High: 1 + code/8%8}
		q := impl.Piece{Wide: 1 + code/64%3, High: 1 + code/192}
		for a := int64(1); a <= 5; a++ {
			for c := int64(1); c <= 5; c++ {
				checkGridCuts(t, p, a, c, q)
			}
		}
	}
}

// TestGridsNearTheLimit checks all grids of which the numbers of cuts are near MaxCuts or greater,
// on pieces that are just as great as the grid, and a bit greater or smaller on either side.
func TestGridsNearTheLimit(t *testing.T) {
	q := impl.Piece{Wide: 3, High: 2}
	for a := int64(1); a <= 80; a++ {
		for c := int64(1); c <= 80; c++ {
			if a*c < 30 || a*c > 130 && c%7 != 0 {
				continue
			}
			for _, right := range []int64{-1, 0, 1, 3} {
				for _, below := range []int64{-1, 0, 1, 2} {
					checkGridCuts(t, impl.Piece{Wide: a*q.Wide + right, High: c*q.High + below}, a, c, q)
				}
			}
		}
	}
}

// TestGridLimits checks grids with as many cuts as are allowed and with one more, and which error
// comes first.
func TestGridLimits(t *testing.T) {
	tiny, greatest := impl.Piece{Wide: 1, High: 1}, impl.Piece{Wide: 20000, High: 20000}
	for _, x := range []struct {
		p    impl.Piece
		a, c int64
		cuts int
		code int64
	}{
		{impl.Piece{Wide: 80, High: 1}, 80, 1, 79, impl.ErrNone}, {impl.Piece{Wide: 81, High: 1}, 80, 1, 0, impl.ErrLimit},
		{impl.Piece{Wide: 80, High: 2}, 80, 1, 0, impl.ErrLimit}, {impl.Piece{Wide: 81, High: 1}, 79, 1, 79, impl.ErrNone},
		{impl.Piece{Wide: 1, High: 80}, 1, 80, 79, impl.ErrNone}, {impl.Piece{Wide: 1, High: 81}, 1, 80, 0, impl.ErrLimit},
		{impl.Piece{Wide: 2, High: 80}, 1, 80, 0, impl.ErrLimit}, {impl.Piece{Wide: 2, High: 79}, 1, 79, 79, impl.ErrNone},
		{impl.Piece{Wide: 1, High: 80}, 1, 79, 79, impl.ErrNone}, {impl.Piece{Wide: 2, High: 80}, 1, 79, 0, impl.ErrLimit},
		{impl.Piece{Wide: 8, High: 10}, 8, 10, 79, impl.ErrNone}, {impl.Piece{Wide: 9, High: 10}, 8, 10, 0, impl.ErrLimit},
		{impl.Piece{Wide: 8, High: 10}, 8, 9, 79, impl.ErrNone}, {impl.Piece{Wide: 9, High: 10}, 8, 9, 0, impl.ErrLimit},
		{impl.Piece{Wide: 40, High: 2}, 40, 1, 79, impl.ErrNone}, {impl.Piece{Wide: 41, High: 2}, 40, 1, 0, impl.ErrLimit},
		{impl.Piece{Wide: 40, High: 2}, 40, 2, 79, impl.ErrNone}, {impl.Piece{Wide: 9, High: 9}, 9, 9, 0, impl.ErrLimit},
		{greatest, 80, 80, 0, impl.ErrLimit}, {tiny, 80, 80, 0, impl.ErrLimit},
		// The piece is too small, by one or by far. Too many cuts are told first.
		{impl.Piece{Wide: 79, High: 1}, 80, 1, 0, impl.ErrState}, {impl.Piece{Wide: 1, High: 79}, 1, 80, 0, impl.ErrState},
		{impl.Piece{Wide: 7, High: 10}, 8, 10, 0, impl.ErrState}, {impl.Piece{Wide: 8, High: 9}, 8, 10, 0, impl.ErrState},
		{tiny, 1, 2, 0, impl.ErrState}, {tiny, 2, 1, 0, impl.ErrState}, {tiny, 8, 10, 0, impl.ErrState},
		{impl.Piece{Wide: 8, High: 8}, 9, 9, 0, impl.ErrLimit}, {impl.Piece{Wide: 79, High: 2}, 80, 1, 0, impl.ErrLimit},
	} {
		program, code := impl.GridCuts(x.p, x.a, x.c, tiny)
		if len(program) != x.cuts || code != x.code {
			t.Errorf("GridCuts(%v, %d, %d, %v) = %v, %d; want %d cuts, %d", x.p, x.a, x.c, tiny, program, code, x.cuts, x.code)
		}
		checkGridCuts(t, x.p, x.a, x.c, tiny)
	}
	checkNoGrid(t, greatest, 80, 80, greatest, impl.ErrLimit)
	checkNoGrid(t, greatest, 2, 1, greatest, impl.ErrState)
	checkNoGrid(t, greatest, 1, 80, impl.Piece{Wide: 1, High: 20000}, impl.ErrLimit)
	checkNoGrid(t, greatest, 80, 1, impl.Piece{Wide: 251, High: 20000}, impl.ErrState)
	checkNoGrid(t, impl.Piece{Wide: 19999, High: 20000}, 1, 1, greatest, impl.ErrState)
	checkNoGrid(t, impl.Piece{Wide: 20000, High: 19999}, 1, 1, greatest, impl.ErrState)
}

// TestGridErrors checks that pieces that are not valid are told first, and then numbers of columns
// and rows that are not in their range, also where there would be too many cuts or the piece is too
// small.
func TestGridErrors(t *testing.T) {
	tiny, greatest := impl.Piece{Wide: 1, High: 1}, impl.Piece{Wide: 20000, High: 20000}
	for _, wrong := range notPieces() {
		for _, n := range []int64{1, 80, 0, 81, -1, math.MaxInt64} {
			for _, other := range []impl.Piece{tiny, greatest, wrong} {
				checkNoGrid(t, wrong, n, 1, other, impl.ErrInvalid)
				checkNoGrid(t, other, 1, n, wrong, impl.ErrInvalid)
			}
		}
	}
	for _, n := range append(outOf(1, impl.MaxPieces), 0, -80, 160) {
		for _, other := range []int64{1, 2, 80, n} {
			for _, pair := range [][2]impl.Piece{{greatest, tiny}, {tiny, tiny}, {tiny, greatest}, {greatest, greatest}} {
				checkNoGrid(t, pair[0], n, other, pair[1], impl.ErrRange)
				checkNoGrid(t, pair[0], other, n, pair[1], impl.ErrRange)
			}
		}
	}
}

func TestProgramText(t *testing.T) {
	for _, x := range []struct {
		program []impl.Cut
		want    string
	}{
		{nil, ""}, {[]impl.Cut{}, ""}, {[]impl.Cut{{}}, "0|0"}, {[]impl.Cut{{Across: true}}, "0-0"},
		{[]impl.Cut{{Index: 79, At: 5}}, "79|5"}, {[]impl.Cut{{Index: 10, Across: true, At: 2970}}, "10-2970"},
		{[]impl.Cut{{At: 4}, {Index: 1, Across: true, At: 2}, {Across: true, At: 5}}, "0|4 1-2 0-5"},
		{[]impl.Cut{{Index: 20000, At: 20000}, {Index: 20000, Across: true, At: 20000}}, "20000|20000 20000-20000"},
		{[]impl.Cut{{Index: 19999, At: 0}, {Index: 0, Across: true, At: 19999}}, "19999|0 0-19999"},
		{repeatedCut(impl.Cut{Index: 7, Across: true, At: 12}, 79), strings.Repeat("7-12 ", 78) + "7-12"},
	} {
		checkProgramText(t, x.program, x.want)
	}
	for seed := range int64(5) {
		for n := range 80 {
			program := manyCuts(n, seed)
			checkProgramReading(t, impl.ProgramText(program))
			if got, ok := impl.ReadProgram(impl.ProgramText(program)); !slices.Equal(got, program) || !ok {
				t.Fatalf("the program %v is not found from its text %q: %v, %v", program, impl.ProgramText(program), got, ok)
			}
		}
	}
}

// TestProgramsWithoutText checks programs that are too long, and such with a number at any place
// that is not in its range.
func TestProgramsWithoutText(t *testing.T) {
	check := func(program []impl.Cut) {
		t.Helper()
		if s := impl.ProgramText(program); s != "" {
			t.Errorf("ProgramText(%v) = %q", program, s)
		}
	}
	for _, n := range []int{80, 81, 160, 335, 1000} {
		check(repeatedCut(impl.Cut{}, n))
		check(repeatedCut(impl.Cut{Index: -1, At: -1}, n))
	}
	for _, wrong := range append(outOf(0, impl.MaxSheet), -20000) {
		for _, n := range []int{1, 2, 79} {
			for _, place := range []int{0, n / 2, n - 1} {
				for _, c := range []impl.Cut{{Index: wrong, At: 1}, {Index: 1, At: wrong}, {Index: wrong, Across: true, At: 20000}, {Across: true, At: wrong}, {Index: wrong, At: wrong}} {
					program := repeatedCut(impl.Cut{Index: 1, At: 1}, n)
					program[place] = c
					check(program)
				}
			}
		}
	}
}

// TestReadAllShortTexts checks all short strings of the characters that programs have.
func TestReadAllShortTexts(t *testing.T) {
	for length := range 8 {
		for _, s := range stringsOf("01|- ", length) {
			checkProgramReading(t, s)
		}
	}
}

// TestReadAlmostTexts checks texts of programs in which one character is left out, changed or
// added, and others that are almost texts.
func TestReadAlmostTexts(t *testing.T) {
	for _, s := range []string{"0|4 1-2 0-5", "20000|20000 20000-20000", "79-1", "12|345 6-7890 10|9"} {
		checkProgramReading(t, s)
		for i := range len(s) + 1 {
			for b := range 256 {
				checkProgramReading(t, s[:i]+string([]byte{byte(b)})+s[i:])
				if i < len(s) {
					checkProgramReading(t, s[:i]+string([]byte{byte(b)})+s[i+1:])
				}
			}
			if i < len(s) {
				checkProgramReading(t, s[:i]+s[i+1:])
			}
		}
	}
	for _, s := range []string{
		"x", "|", "-", " ", "0", "0|", "|1", "0|1 ", " 0|1", "0|1  0|1", "0|01", "00|1", "-0|1", "+0|1", "0|+1", "0|-1", "0--1", "-1|3", "0||1",
		"0|1|2", "0-1-2", "0|1-2", "0-1|2", "0 | 1", "0| 1", "0 |1", "0|1\n", "\n0|1", "0|1\t0|1", "0|1\n0|1", "0|1,0|1", "0x1|1", "0_1|1", "1_0|1", "0|1e2", "0|1.0",
		"0/1", "0\u20131", "\u0661|1", "0|1\x00", "0\uFF5C1", "a|b",
	} {
		if program, ok := impl.ReadProgram(s); program != nil || ok {
			t.Errorf("ReadProgram(%q) = %v, %v", s, program, ok)
		}
	}
}

// TestReadGreatNumbers checks numbers at and beside 0 and MaxSheet, and such that would be in the
// range if their upper digits were lost.
func TestReadGreatNumbers(t *testing.T) {
	numbers := []string{"0", "1", "9", "10", "19999", "20000", "20001", "99999", "100000", "00", "01", "020000", "-1", "-20000", "2147483648", "4294967296", "4294967297"}
	numbers = append(numbers, "9223372036854775807", "9223372036854775808", "-9223372036854775808", "18446744073709551616", "18446744073709551617", "1"+strings.Repeat("0", 400))
	for _, index := range numbers {
		for _, at := range numbers {
			for _, sign := range []string{"|", "-"} {
				checkProgramReading(t, index+sign+at)
				checkProgramReading(t, "1|1 "+index+sign+at)
				checkProgramReading(t, index+sign+at+" 1-1")
			}
		}
	}
}

// TestReadManyCuts checks texts with as many cuts as are allowed, and with more.
func TestReadManyCuts(t *testing.T) {
	for _, cut := range []string{"0|1", "79-20000"} {
		for _, n := range []int{1, 2, 78, 79, 80, 81, 160, 335, 100000} {
			s := strings.Repeat(cut+" ", n)
			checkProgramReading(t, s[:len(s)-1])
			program, ok := impl.ReadProgram(s[:len(s)-1])
			if n <= 79 && (len(program) != n || !ok) || n > 79 && (program != nil || ok) {
				t.Errorf("ReadProgram of %d cuts = %v, %v", n, program, ok)
			}
			if program, ok := impl.ReadProgram(s); program != nil || ok {
				t.Errorf("ReadProgram of %d cuts with a blank behind them = %v, %v", n, program, ok)
			}
		}
	}
}

// TestCutsKeepTheirArguments checks that no list is changed, nor the capacity behind it, and that
// results share no memory with them.
func TestCutsKeepTheirArguments(t *testing.T) {
	spare := impl.Piece{Wide: 77, High: 77}
	for _, n := range []int{1, 2, 5, 79} {
		want := somePieces(n)
		for index := range int64(n) {
			for _, across := range []bool{false, true} {
				list := spareCopy(want, spare)
				c := impl.Cut{Index: index, Across: across, At: 2}
				impl.CanCut(list, c)
				impl.AreaOf(list)
				impl.CountPieces(list, list[index])
				got, code := impl.MakeCut(list, c)
				if !keptSpare(list, want, spare) || code != impl.ErrNone {
					t.Fatalf("MakeCut of %v by %v changed it to %v", want, c, list[:n+3])
				}
				kept := slices.Clone(got)
				clear(list[:n+3])
				if !slices.Equal(got, kept) {
					t.Fatalf("the result of MakeCut by %v shares memory with its argument", c)
				}
				list = spareCopy(want, spare)
				got, _ = impl.MakeCut(list, c)
				clear(got[:cap(got)])
				if !keptSpare(list, want, spare) {
					t.Fatalf("the result of MakeCut by %v shares memory with its argument", c)
				}
			}
		}
	}
}

// TestProgramsKeepTheirArguments checks the same of programs, and that two results of the same call
// share no memory.
func TestProgramsKeepTheirArguments(t *testing.T) {
	sheet, spare := impl.Piece{Wide: 20000, High: 20000}, impl.Cut{Index: 77, At: 77}
	for _, n := range []int{0, 1, 2, 5, 78, 79} {
		want := manyCuts(n, 3)
		program := spareCopy(want, spare)
		first, _ := impl.RunCuts(sheet, program)
		text := impl.ProgramText(program)
		if !keptSpare(program, want, spare) {
			t.Errorf("a program of %d cuts was changed to %v", n, program[:n+3])
		}
		kept := slices.Clone(first)
		second, _ := impl.RunCuts(sheet, program)
		clear(second[:cap(second)])
		if !slices.Equal(first, kept) {
			t.Errorf("two results of RunCuts share memory")
		}
		read, _ := impl.ReadProgram(text)
		again, _ := impl.ReadProgram(text)
		clear(again[:cap(again)])
		if !slices.Equal(read, want) {
			t.Errorf("two results of ReadProgram share memory")
		}
	}
	q := impl.Piece{Wide: 3, High: 2}
	first, _ := impl.GridCuts(sheet, 3, 4, q)
	kept := slices.Clone(first)
	second, _ := impl.GridCuts(sheet, 3, 4, q)
	clear(second[:cap(second)])
	if !slices.Equal(first, kept) {
		t.Errorf("two results of GridCuts share memory")
	}
}
