package tests

import (
	"math"
	"slices"
	"strconv"
	"strings"
	"testing"

	"loop.example/g00944/impl"
)

// What laidPages says of a page that is in no chapter.
const (
	inFront = -1
	isBlank = -2
)

// laidPages lays a valid book page by page, and tells the chapter of each one, inFront or isBlank.
func laidPages(b impl.Book) []int64 {
	pages := slices.Repeat([]int64{inFront}, int(b.Front))
	for i, length := range b.Chapters {
		if b.Recto && len(pages)%2 == 1 {
			pages = append(pages, isBlank)
		}
		pages = append(pages, slices.Repeat([]int64{int64(i)}, int(length))...)
	}
	return pages
}

// laidLabels returns the labels of laid pages.
func laidLabels(pages []int64) []string {
	body := slices.Index(pages, 0)
	labels := make([]string, len(pages))
	for i := range pages {
		if i < body {
			labels[i] = digitwiseRoman(i + 1)
		} else {
			labels[i] = strconv.Itoa(i - body + 1)
		}
	}
	return labels
}

// digitwiseRoman returns the roman numeral of 1 to 3999, digit by digit.
func digitwiseRoman(n int) string {
	return []string{"", "m", "mm", "mmm"}[n/1000] +
		[]string{"", "c", "cc", "ccc", "cd", "d", "dc", "dcc", "dccc", "cm"}[n/100%10] +
		[]string{"", "x", "xx", "xxx", "xl", "l", "lx", "lxx", "lxxx", "xc"}[n/10%10] +
		[]string{"", "i", "ii", "iii", "iv", "v", "vi", "vii", "viii", "ix"}[n%10]
}

// eitherWay returns two books, with Recto and without.
func eitherWay(front int64, chapters ...int64) []impl.Book {
	return []impl.Book{{Front: front, Chapters: chapters, Recto: true}, {Front: front, Chapters: chapters}}
}

// someBooks returns valid books of all sizes, with Recto and without.
func someBooks() []impl.Book {
	var books []impl.Book
	for front := int64(0); front <= impl.MaxFront; front++ {
		books = append(books, eitherWay(front, 1)...)
		books = append(books, eitherWay(front, 2, 3, 1, 4)...)
		books = append(books, eitherWay(front, 3, 3, 2, 2, 1, 1, 1)...)
	}
	for _, front := range []int64{0, 1, 2, impl.MaxFront - 1, impl.MaxFront} {
		for _, length := range []int64{1, 2, 3, 9, 10, 11, impl.MaxLength - 1, impl.MaxLength} {
			books = append(books, eitherWay(front, length)...)
			books = append(books, eitherWay(front, slices.Repeat([]int64{length}, impl.MaxChapters)...)...)
			books = append(books, eitherWay(front, slices.Repeat([]int64{length, 4}, impl.MaxChapters/2)...)...)
		}
	}
	return books
}

// notBooks returns books that are not valid. Some would have many pages, some none.
func notBooks() map[string]impl.Book {
	change := func(i int, length int64) []int64 {
		chapters := slices.Repeat([]int64{5}, impl.MaxChapters)
		chapters[i] = length
		return chapters
	}
	return map[string]impl.Book{
		"zero value":                 {},
		"no chapters":                {Front: 4},
		"no chapters, an empty list": {Front: 4, Chapters: []int64{}, Recto: true},
		"front one past the limit":   {Front: impl.MaxFront + 1, Chapters: []int64{1}},
		"front one below":            {Front: -1, Chapters: []int64{5}},
		"front one below, Recto":     {Front: -1, Chapters: []int64{5}, Recto: true},
		"very great front":           {Front: math.MaxInt64, Chapters: []int64{5}, Recto: true},
		"very small front":           {Front: math.MinInt64, Chapters: []int64{5}, Recto: true},
		"a chapter too many":         {Chapters: slices.Repeat([]int64{5}, impl.MaxChapters+1), Recto: true},
		"far too many chapters":      {Chapters: slices.Repeat([]int64{5}, 1000)},
		"a chapter of no pages":      {Front: 3, Chapters: []int64{0}},
		"a chapter of -1":            {Front: 3, Chapters: []int64{-1}, Recto: true},
		"a page too many":            {Front: 3, Chapters: []int64{impl.MaxLength + 1}},
		"first of no pages":          {Chapters: change(0, 0), Recto: true},
		"first too long":             {Chapters: change(0, impl.MaxLength+1)},
		"middle of no pages":         {Chapters: change(9, 0), Recto: true},
		"middle negative":            {Chapters: change(9, -5)},
		"last of no pages":           {Chapters: change(impl.MaxChapters-1, 0)},
		"last too long":              {Chapters: change(impl.MaxChapters-1, impl.MaxLength+1), Recto: true},
		"very long":                  {Chapters: []int64{5, math.MaxInt64}},
		"very negative":              {Chapters: []int64{math.MinInt64, 5}},
		"2 to the power 32 more":     {Chapters: []int64{1<<32 + 5}},
		"all of it wrong":            {Front: -1, Chapters: make([]int64, impl.MaxChapters+1)},
	}
}

func TestIsBook(t *testing.T) {
	for _, b := range someBooks() {
		if !impl.IsBook(b) {
			t.Errorf("IsBook(%v) = false", b)
		}
	}
	for name, b := range notBooks() {
		if impl.IsBook(b) {
			t.Errorf("%s: IsBook(%v) = true", name, b)
		}
	}
	if impl.MaxFront != 40 || impl.MaxChapters != 20 || impl.MaxLength != 200 || impl.MaxRoman != 3999 {
		t.Errorf("the limits are %d, %d, %d and %d", impl.MaxFront, impl.MaxChapters, impl.MaxLength, impl.MaxRoman)
	}
}

func TestChapterStartsAndBlankPages(t *testing.T) {
	for _, c := range []struct {
		book          impl.Book
		starts, blank []int64
		count         int64
	}{
		{impl.Book{Chapters: []int64{1}}, []int64{1}, nil, 1},
		{impl.Book{Chapters: []int64{1}, Recto: true}, []int64{1}, nil, 1},
		{impl.Book{Chapters: []int64{2, 2}, Recto: true}, []int64{1, 3}, nil, 4},
		{impl.Book{Chapters: []int64{1, 1}, Recto: true}, []int64{1, 3}, []int64{2}, 3},
		{impl.Book{Chapters: []int64{1, 1}}, []int64{1, 2}, nil, 2},
		{impl.Book{Front: 1, Chapters: []int64{1}, Recto: true}, []int64{3}, []int64{2}, 3},
		{impl.Book{Front: 1, Chapters: []int64{1}}, []int64{2}, nil, 2},
		{impl.Book{Front: 2, Chapters: []int64{1}, Recto: true}, []int64{3}, nil, 3},
		{impl.Book{Front: 3, Chapters: []int64{4, 5, 2, 6}, Recto: true}, []int64{5, 9, 15, 17}, []int64{4, 14}, 22},
		{impl.Book{Front: 3, Chapters: []int64{4, 5, 2, 6}}, []int64{4, 8, 13, 15}, nil, 20},
		{impl.Book{Front: impl.MaxFront, Chapters: []int64{impl.MaxLength}, Recto: true}, []int64{41}, nil, 240},
		{impl.Book{Front: impl.MaxFront - 1, Chapters: []int64{impl.MaxLength - 1, 3}, Recto: true}, []int64{41, 241}, []int64{40, 240}, 243},
	} {
		if got, code := impl.ChapterStarts(c.book); !slices.Equal(got, c.starts) || code != impl.ErrNone {
			t.Errorf("ChapterStarts(%v) = %v, %d; want %v", c.book, got, code, c.starts)
		}
		if got, code := impl.BlankPages(c.book); !slices.Equal(got, c.blank) || code != impl.ErrNone {
			t.Errorf("BlankPages(%v) = %v, %d; want %v", c.book, got, code, c.blank)
		}
		if got, code := impl.PageCount(c.book); got != c.count || code != impl.ErrNone {
			t.Errorf("PageCount(%v) = %d, %d; want %d", c.book, got, code, c.count)
		}
	}
}

// TestGreatestBooks looks at the books with the most pages and with the most blank ones.
func TestGreatestBooks(t *testing.T) {
	for _, c := range []struct {
		front, length int64
		recto         bool
		count         int64
		blank         int
		lastLabel     string
	}{
		{impl.MaxFront, impl.MaxLength, true, 4040, 0, "4000"},
		{impl.MaxFront, impl.MaxLength, false, 4040, 0, "4000"},
		{impl.MaxFront, impl.MaxLength - 1, true, 4039, 19, "3999"},
		{impl.MaxFront - 1, impl.MaxLength - 1, true, 4039, 20, "3999"},
		{impl.MaxFront - 1, impl.MaxLength - 1, false, 4019, 0, "3980"},
		{impl.MaxFront - 1, impl.MaxLength, true, 4040, 1, "4000"},
		{0, 1, true, 39, 19, "39"},
	} {
		b := impl.Book{Front: c.front, Chapters: slices.Repeat([]int64{c.length}, impl.MaxChapters), Recto: c.recto}
		count, code := impl.PageCount(b)
		if count != c.count || code != impl.ErrNone {
			t.Errorf("PageCount(%v) = %d, %d; want %d", b, count, code, c.count)
		}
		if blank, code := impl.BlankPages(b); len(blank) != c.blank || code != impl.ErrNone {
			t.Errorf("BlankPages(%v) = %v, %d; want %d pages", b, blank, code, c.blank)
		}
		if label, code := impl.LabelOf(b, c.count); label != c.lastLabel || code != impl.ErrNone {
			t.Errorf("LabelOf(%v, %d) = %q, %d; want %q", b, c.count, label, code, c.lastLabel)
		}
		if page, code := impl.PageOfLabel(b, c.lastLabel); page != c.count || code != impl.ErrNone {
			t.Errorf("PageOfLabel(%v, %q) = %d, %d; want %d", b, c.lastLabel, page, code, c.count)
		}
		if i, code := impl.ChapterOf(b, c.count); i != impl.MaxChapters-1 || code != impl.ErrNone {
			t.Errorf("ChapterOf(%v, %d) = %d, %d", b, c.count, i, code)
		}
		if label, code := impl.LabelOf(b, c.count+1); label != "" || code != impl.ErrRange {
			t.Errorf("LabelOf(%v, %d) = %q, %d", b, c.count+1, label, code)
		}
	}
}

// TestBooksPageByPage holds all functions against books that are laid page by page. It is also the
// guarantee of chapter 2.
func TestBooksPageByPage(t *testing.T) {
	for _, b := range someBooks() {
		pages := laidPages(b)
		checkLaidPages(t, b, pages)
		checkLaidLabels(t, b, pages)
	}
}

// checkLaidPages checks the starts, the blank pages, the count and the chapters of a laid book.
func checkLaidPages(t *testing.T, b impl.Book, pages []int64) {
	t.Helper()
	starts := make([]int64, len(b.Chapters))
	var blank []int64
	for i, chapter := range pages {
		page := int64(i) + 1
		want, wantCode := chapter, int64(impl.ErrNone)
		switch {
		case chapter == isBlank:
			blank = append(blank, page)
			want, wantCode = 0, impl.ErrNotFound
		case chapter == inFront:
			want, wantCode = 0, impl.ErrNotFound
		case starts[chapter] == 0:
			starts[chapter] = page
		}
		if got, code := impl.ChapterOf(b, page); got != want || code != wantCode {
			t.Fatalf("ChapterOf(%v, %d) = %d, %d; want %d, %d", b, page, got, code, want, wantCode)
		}
	}
	got, code := impl.ChapterStarts(b)
	if !slices.Equal(got, starts) || code != impl.ErrNone {
		t.Fatalf("ChapterStarts(%v) = %v, %d; want %v", b, got, code, starts)
	}
	for _, start := range got {
		if b.Recto && start%2 == 0 {
			t.Fatalf("ChapterStarts(%v) = %v: an even page", b, got)
		}
	}
	if got, code := impl.BlankPages(b); !slices.Equal(got, blank) || code != impl.ErrNone {
		t.Fatalf("BlankPages(%v) = %v, %d; want %v", b, got, code, blank)
	}
	if got, code := impl.PageCount(b); got != int64(len(pages)) || code != impl.ErrNone {
		t.Fatalf("PageCount(%v) = %d, %d; want %d", b, got, code, len(pages))
	}
}

// checkLaidLabels checks that each page of a laid book has its label, and is found by it.
func checkLaidLabels(t *testing.T, b impl.Book, pages []int64) {
	t.Helper()
	for i, want := range laidLabels(pages) {
		page := int64(i) + 1
		if got, code := impl.LabelOf(b, page); got != want || code != impl.ErrNone {
			t.Fatalf("LabelOf(%v, %d) = %q, %d; want %q", b, page, got, code, want)
		}
		// Finding every page of every great book would take long: there, every seventh one will do.
		if len(pages) > 500 && i%7 != 0 {
			continue
		}
		if got, code := impl.PageOfLabel(b, want); got != page || code != impl.ErrNone {
			t.Fatalf("PageOfLabel(%v, %q) = %d, %d; want %d", b, want, got, code, page)
		}
	}
}

func TestLabels(t *testing.T) {
	b := impl.Book{Front: 9, Chapters: []int64{3, 2}, Recto: true}
	for i, want := range []string{"i", "ii", "iii", "iv", "v", "vi", "vii", "viii", "ix", "x", "1", "2", "3", "4", "5", "6"} {
		page := int64(i) + 1
		if got, code := impl.LabelOf(b, page); got != want || code != impl.ErrNone {
			t.Errorf("LabelOf(%d) = %q, %d; want %q", page, got, code, want)
		}
		if got, code := impl.PageOfLabel(b, want); got != page || code != impl.ErrNone {
			t.Errorf("PageOfLabel(%q) = %d, %d; want %d", want, got, code, page)
		}
	}
	for _, want := range []string{"xxxix", "xl"} {
		page, code := impl.PageOfLabel(impl.Book{Front: impl.MaxFront - 1, Chapters: []int64{1}, Recto: true}, want)
		if back, _ := impl.ReadRoman(want); page != back || code != impl.ErrNone {
			t.Errorf("PageOfLabel(%q) = %d, %d", want, page, code)
		}
	}
}

func TestLabelsOfNoPage(t *testing.T) {
	labels := []string{
		"", "0", "00", "01", "07", "-1", "+1", "+7", "1.0", "1e0", "0x1", "1_0", " 1", "1 ", "1\n", "\t1", "1\x00",
		"I", "II", "iiii", "vx", "ic", "im", "iix", "vv", "ivi", " i", "i ", "i1", "1i", "mmmm", "one", "-i",
		"18", "17", "100", "4000", "9223372036854775807", "9223372036854775808", "18446744073709551617", "-9223372036854775808",
		"\u0661", "\u2170", "\xff", strings.Repeat("0", 1000) + "1", strings.Repeat("i", 10000), strings.Repeat("9", 10000),
	}
	// The body of each book has the labels 1 to 16. Beside it stand the roman numerals of its first
	// two pages, which have labels in decimal instead, and that of its last page.
	for _, c := range []struct {
		book impl.Book
		more []string
	}{
		{impl.Book{Front: 4, Chapters: []int64{4, 5, 2, 4}, Recto: true}, []string{"v", "vi", "xx"}},
		{impl.Book{Front: 5, Chapters: []int64{8, 8}, Recto: true}, []string{"vii", "viii", "xxii"}},
		{impl.Book{Front: 5, Chapters: []int64{8, 8}}, []string{"vi", "vii", "xxi"}},
		{impl.Book{Chapters: []int64{16}}, []string{"i", "ii", "xvi"}},
		{impl.Book{Chapters: []int64{16}, Recto: true}, []string{"i", "ii", "xvi"}},
	} {
		for _, label := range append(slices.Clone(labels), c.more...) {
			if page, code := impl.PageOfLabel(c.book, label); page != 0 || code != impl.ErrNotFound {
				t.Errorf("PageOfLabel(%v, %q) = %d, %d", c.book, label, page, code)
			}
		}
		if page, code := impl.PageOfLabel(c.book, "16"); page == 0 || code != impl.ErrNone {
			t.Errorf("PageOfLabel(%v, 16) = %d, %d", c.book, page, code)
		}
	}
}

// TestPagesOutOfRange also checks that ErrRange comes before the ErrNotFound of front matter.
func TestPagesOutOfRange(t *testing.T) {
	for _, b := range someBooks() {
		count := int64(len(laidPages(b)))
		for _, page := range []int64{0, -1, math.MinInt64, count + 1, count + 2, math.MaxInt64, 1<<32 + 1} {
			if label, code := impl.LabelOf(b, page); label != "" || code != impl.ErrRange {
				t.Errorf("LabelOf(%v, %d) = %q, %d", b, page, label, code)
			}
			if i, code := impl.ChapterOf(b, page); i != 0 || code != impl.ErrRange {
				t.Errorf("ChapterOf(%v, %d) = %d, %d", b, page, i, code)
			}
		}
	}
}

// TestInvalidBooks also checks that ErrInvalid comes before ErrRange and ErrNotFound.
func TestInvalidBooks(t *testing.T) {
	for name, b := range notBooks() {
		if list, code := impl.ChapterStarts(b); len(list) != 0 || code != impl.ErrInvalid {
			t.Errorf("%s: ChapterStarts = %v, %d", name, list, code)
		}
		if list, code := impl.BlankPages(b); len(list) != 0 || code != impl.ErrInvalid {
			t.Errorf("%s: BlankPages = %v, %d", name, list, code)
		}
		if n, code := impl.PageCount(b); n != 0 || code != impl.ErrInvalid {
			t.Errorf("%s: PageCount = %d, %d", name, n, code)
		}
		for _, page := range []int64{1, 2, 5, 0, -1, 100000, math.MaxInt64, math.MinInt64} {
			if label, code := impl.LabelOf(b, page); label != "" || code != impl.ErrInvalid {
				t.Errorf("%s: LabelOf(%d) = %q, %d", name, page, label, code)
			}
			if i, code := impl.ChapterOf(b, page); i != 0 || code != impl.ErrInvalid {
				t.Errorf("%s: ChapterOf(%d) = %d, %d", name, page, i, code)
			}
		}
		for _, label := range []string{"", "i", "1", "5", "none", "100000"} {
			if page, code := impl.PageOfLabel(b, label); page != 0 || code != impl.ErrInvalid {
				t.Errorf("%s: PageOfLabel(%q) = %d, %d", name, label, page, code)
			}
		}
	}
}

func TestPaddedCount(t *testing.T) {
	for _, c := range [][3]int64{
		{0, 1, 0}, {0, 16, 0}, {0, impl.MaxNumber, 0}, {1, 1, 1}, {1, 16, 16}, {15, 16, 16}, {16, 16, 16}, {17, 16, 32}, {22, 16, 32}, {7, 3, 9},
		{1, impl.MaxNumber, impl.MaxNumber},
		{impl.MaxNumber, 1, impl.MaxNumber},
		{impl.MaxNumber, 3, 1000000002},
		{impl.MaxNumber, impl.MaxNumber, impl.MaxNumber},
		{impl.MaxNumber - 1, impl.MaxNumber, impl.MaxNumber},
		{impl.MaxNumber, impl.MaxNumber - 1, 1999999998},
	} {
		if got, code := impl.PaddedCount(c[0], c[1]); got != c[2] || code != impl.ErrNone {
			t.Errorf("PaddedCount(%d, %d) = %d, %d; want %d", c[0], c[1], got, code, c[2])
		}
	}
	for n := range int64(100) {
		for unit := int64(1); unit <= 40; unit++ {
			want := n
			for want%unit != 0 {
				want++
			}
			if got, code := impl.PaddedCount(n, unit); got != want || code != impl.ErrNone {
				t.Errorf("PaddedCount(%d, %d) = %d, %d; want %d", n, unit, got, code, want)
			}
		}
	}
}

func TestPaddedCountErrors(t *testing.T) {
	for _, c := range [][2]int64{
		{-1, 1}, {-1, 16}, {math.MinInt64, 16}, {impl.MaxNumber + 1, 1}, {impl.MaxNumber + 1, impl.MaxNumber}, {math.MaxInt64, 16},
		{7, 0}, {0, 0}, {7, -1}, {7, math.MinInt64}, {7, impl.MaxNumber + 1}, {0, impl.MaxNumber + 1}, {7, math.MaxInt64},
		{-1, 0}, {impl.MaxNumber + 1, impl.MaxNumber + 1}, {math.MinInt64, -1}, {math.MaxInt64, math.MaxInt64},
	} {
		if n, code := impl.PaddedCount(c[0], c[1]); n != 0 || code != impl.ErrRange {
			t.Errorf("PaddedCount(%d, %d) = %d, %d", c[0], c[1], n, code)
		}
	}
}

func TestRomans(t *testing.T) {
	for _, c := range []struct {
		n int64
		s string
	}{
		{1, "i"}, {2, "ii"}, {3, "iii"}, {4, "iv"}, {5, "v"}, {8, "viii"}, {9, "ix"}, {10, "x"}, {14, "xiv"},
		{40, "xl"}, {49, "xlix"}, {50, "l"}, {90, "xc"}, {99, "xcix"}, {100, "c"}, {400, "cd"}, {444, "cdxliv"}, {500, "d"},
		{888, "dccclxxxviii"}, {900, "cm"}, {999, "cmxcix"}, {1000, "m"}, {1001, "mi"}, {1994, "mcmxciv"}, {2026, "mmxxvi"},
		{3888, "mmmdccclxxxviii"}, {impl.MaxRoman - 1, "mmmcmxcviii"}, {impl.MaxRoman, "mmmcmxcix"},
	} {
		if got := impl.RomanText(c.n); got != c.s {
			t.Errorf("RomanText(%d) = %q; want %q", c.n, got, c.s)
		}
		if got, ok := impl.ReadRoman(c.s); got != c.n || !ok {
			t.Errorf("ReadRoman(%q) = %d, %v; want %d", c.s, got, ok, c.n)
		}
	}
	for n := 1; n <= impl.MaxRoman; n++ {
		s := impl.RomanText(int64(n))
		if want := digitwiseRoman(n); s != want {
			t.Errorf("RomanText(%d) = %q; want %q", n, s, want)
		}
		if got, ok := impl.ReadRoman(s); got != int64(n) || !ok {
			t.Errorf("ReadRoman(%q) = %d, %v; want %d", s, got, ok, n)
		}
	}
	for _, n := range []int64{0, -1, -4, math.MinInt64, impl.MaxRoman + 1, impl.MaxRoman + 2, math.MaxInt64, 1<<32 + 1} {
		if got := impl.RomanText(n); got != "" {
			t.Errorf("RomanText(%d) = %q", n, got)
		}
	}
}

func TestReadRomanOfNoNumeral(t *testing.T) {
	for _, s := range []string{
		"", " ", "0", "1", "n", "iiii", "vv", "xxxx", "ll", "cccc", "dd", "mmmm", "mmmmi", "mmmmcmxcix", "viv", "ivi", "ixi", "ixv", "iix", "iiv",
		"vx", "il", "ic", "id", "im", "vl", "vc", "xd", "xm", "ld", "lm", "lc", "dm", "ixx", "xcx", "xlx", "cmc", "cdc", "xcl", "cmd", "xcxc", "cdcd", "iviv",
		"I", "X", "IV", "Iv", "iV", "MCMXCIV", " i", "i ", "i\n", "i i", "ia", "ai", "iai", "-i", "+i", "i.", "i0", "i\x00", "\xff", "mmmcmxcixi", "cim", "ivxlcdm",
		"\u2170", "\u0131", "m\u0304", strings.Repeat("m", 100000), strings.Repeat("i", 100000), strings.Repeat("z", 100000),
	} {
		if n, ok := impl.ReadRoman(s); n != 0 || ok {
			t.Errorf("ReadRoman(%q) = %d, %v", s[:min(len(s), 30)], n, ok)
		}
	}
}

// TestReadRomanOfShortTexts holds ReadRoman against the definition for all texts of up to five
// characters that matter.
func TestReadRomanOfShortTexts(t *testing.T) {
	numbers := map[string]int64{}
	for n := 1; n <= impl.MaxRoman; n++ {
		numbers[digitwiseRoman(n)] = int64(n)
	}
	var check func(s string)
	check = func(s string) {
		want, wanted := numbers[s]
		if n, ok := impl.ReadRoman(s); n != want || ok != wanted {
			t.Errorf("ReadRoman(%q) = %d, %v; want %d, %v", s, n, ok, want, wanted)
		}
		if len(s) < 5 {
			for _, c := range "ivxlcdmI" {
				check(s + string(c))
			}
		}
	}
	check("")
}

// TestBooksAreNotShared checks that no function changes the chapters or the memory behind them, and
// that results are new memory.
func TestBooksAreNotShared(t *testing.T) {
	backing := []int64{1, 1, 1, 7, 7, 7}
	b := impl.Book{Front: 3, Chapters: backing[:3], Recto: true}
	impl.IsBook(b)
	impl.PageCount(b)
	impl.LabelOf(b, 5)
	impl.PageOfLabel(b, "5")
	impl.ChapterOf(b, 5)
	for range 2 {
		starts, _ := impl.ChapterStarts(b)
		blank, _ := impl.BlankPages(b)
		if !slices.Equal(starts, []int64{5, 7, 9}) || !slices.Equal(blank, []int64{4, 6, 8}) {
			t.Errorf("ChapterStarts and BlankPages = %v, %v", starts, blank)
		}
		for i := range starts {
			starts[i], blank[i] = -9, -9
		}
		_ = append(starts, -9, -9, -9)
		_ = append(blank, -9, -9, -9)
	}
	if !slices.Equal(backing, []int64{1, 1, 1, 7, 7, 7}) {
		t.Errorf("the chapters have become %v", backing)
	}
}
