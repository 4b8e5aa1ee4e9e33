package tests

import (
	"cmp"
	"fmt"
	"math"
	"slices"
	"strconv"
	"strings"
	"sync"
	"testing"

	"loop.example/g00944/impl"
)

// faultsOf returns the faults with some words, each the book, the station, the first letter of the
// kind and, for a wrong signature, the other station: "1/0m 3/1w2".
func faultsOf(text string) []impl.Fault {
	var faults []impl.Fault
	for _, word := range strings.Fields(text) {
		var f impl.Fault
		var letter rune
		if n, _ := fmt.Sscanf(word, "%d/%d%c%d", &f.Book, &f.Station, &letter, &f.Other); n < 3 {
			panic("no fault")
		}
		f.Kind = int64(strings.IndexRune("mdtw", letter)) + 1
		faults = append(faults, f)
	}
	return faults
}

// blockOf returns the block with some numbers.
func blockOf(text string) []int64 {
	var block []int64
	for _, word := range strings.Fields(text) {
		number, err := strconv.ParseInt(word, 10, 64)
		if err != nil {
			panic(err)
		}
		block = append(block, number)
	}
	return block
}

// blocksOf returns the blocks with some texts, separated by commas.
func blocksOf(text string) [][]int64 {
	var blocks [][]int64
	for _, part := range strings.Split(text, ",") {
		blocks = append(blocks, blockOf(part))
	}
	return blocks
}

// sameBlocks reports whether two lists have equal blocks.
func sameBlocks(a [][]int64, b [][]int64) bool {
	return slices.EqualFunc(a, b, slices.Equal[[]int64])
}

// blockByHand lays the block of one book, signature after signature.
func blockByHand(n int64, book int64, faults []impl.Fault) []int64 {
	var block []int64
	for own := int64(1); own <= n; own++ {
		put := []int64{own}
		for _, f := range faults {
			if f.Book == book && f.Station+1 == own {
				put = [][]int64{nil, {}, {own, own}, {-own}, {f.Other + 1}}[f.Kind]
			}
		}
		block = append(block, put...)
	}
	return block
}

// oneBookFaults returns all faults of a line with one book: what each station can do, after all that
// the stations before it can do.
func oneBookFaults(n int64) [][]impl.Fault {
	lists := [][]impl.Fault{nil}
	for station := range n {
		var longer [][]impl.Fault
		for _, list := range lists {
			longer = append(longer, list)
			for kind := int64(1); kind <= 4; kind++ {
				for other := range n {
					if kind == 4 && other != station || kind != 4 && other == 0 {
						longer = append(longer, append(slices.Clip(list), impl.Fault{Station: station, Kind: kind, Other: other}))
					}
				}
			}
		}
		lists = longer
	}
	return lists
}

// onBook returns faults for another book.
func onBook(faults []impl.Fault, book int64) []impl.Fault {
	moved := slices.Clone(faults)
	for i := range moved {
		moved[i].Book = book
	}
	return moved
}

// kindsOfFaults returns the kinds that faults have at the stations of a line with one book.
func kindsOfFaults(n int64, faults []impl.Fault) []int64 {
	kinds := make([]int64, n)
	for _, f := range faults {
		kinds[f.Station] = f.Kind
	}
	return kinds
}

// faultCount returns how many kinds are other than 0.
func faultCount(kinds []int64) int64 {
	var count int64
	for _, kind := range kinds {
		if kind != 0 {
			count++
		}
	}
	return count
}

// compareExplanations returns a negative number if a is better than b.
func compareExplanations(a []int64, b []int64) int {
	return cmp.Or(cmp.Compare(faultCount(a), faultCount(b)), slices.Compare(a, b))
}

// explanationsByBlock tries all faults of a line and returns all kinds that leave a block, for the
// text of each one.
func explanationsByBlock(n int64) map[string][][]int64 {
	known := map[string][][]int64{}
	for _, faults := range oneBookFaults(n) {
		text := fmt.Sprint(blockByHand(n, 0, faults))
		known[text] = append(known[text], kindsOfFaults(n, faults))
	}
	return known
}

// explainedForward returns the best explanation of a block, or nil: it keeps, after each station,
// the best kinds up to there that leave some beginning of the block.
func explainedForward(n int64, block []int64) []int64 {
	begun := map[int][]int64{0: nil}
	for own := int64(1); own <= n; own++ {
		longer := map[int][]int64{}
		for at, kinds := range begun {
			for kind, taken := range possibleKinds(own, block[at:]) {
				next := append(slices.Clip(kinds), kind)
				if known, ok := longer[at+taken]; !ok || compareExplanations(next, known) < 0 {
					longer[at+taken] = next
				}
			}
		}
		begun = longer
	}
	return begun[len(block)]
}

// possibleKinds returns how many signatures of the rest of a block each kind takes with which the
// station with its own signature can have begun it.
func possibleKinds(own int64, rest []int64) map[int64]int {
	kinds := map[int64]int{impl.FaultMissing: 0}
	if len(rest) == 0 {
		return kinds
	}
	switch first := rest[0]; {
	case first == own:
		kinds[0] = 1
		if len(rest) > 1 && rest[1] == own {
			kinds[impl.FaultDouble] = 2
		}
	case first == -own:
		kinds[impl.FaultTurned] = 1
	case first > 0:
		kinds[impl.FaultWrong] = 1
	}
	return kinds
}

// faultsOfKinds returns faults of one book with the kinds of an explanation of a block; the others
// are those that stand in the block at the place of a wrong signature.
func faultsOfKinds(kinds []int64, block []int64) []impl.Fault {
	var faults []impl.Fault
	at := 0
	for station, kind := range kinds {
		f := impl.Fault{Station: int64(station), Kind: kind}
		if kind == impl.FaultWrong {
			f.Other = block[at] - 1
		}
		if kind != 0 {
			faults = append(faults, f)
		}
		at += []int{1, 0, 2, 1, 1}[kind]
	}
	return faults
}

// faultsFrom returns up to count faults at different places of a line, which a seed tells.
func faultsFrom(seed int64, n int64, books int64, count int) []impl.Fault {
	var faults []impl.Fault
	places := lengthsFrom(seed, count, 0, n*books-1)
	kinds := lengthsFrom(seed*31+7, count, 1, 4)
	others := lengthsFrom(seed*77+3, count, 1, max(n-1, 1))
	for i, place := range places {
		f := impl.Fault{Book: place / n, Station: place % n, Kind: kinds[i]}
		if slices.Contains(places[:i], place) || n == 1 && f.Kind == impl.FaultWrong {
			continue
		}
		if f.Kind == impl.FaultWrong {
			f.Other = (f.Station + others[i]) % n
		}
		faults = append(faults, f)
	}
	return faults
}

// fullFaults returns as many faults as there may be, for the books of a line with twelve stations in
// order.
func fullFaults() []impl.Fault {
	return append(faultsFor(0, 12), faultsFor(1, 8)...)
}

// faultsFor returns faults of a book at the first n stations, of one kind after the other.
func faultsFor(book int64, n int64) []impl.Fault {
	var faults []impl.Fault
	for station := range n {
		f := impl.Fault{Book: book, Station: station, Kind: station%4 + 1}
		if f.Kind == impl.FaultWrong {
			f.Other = 11 - station
		}
		faults = append(faults, f)
	}
	return faults
}

// notStationCounts returns numbers of stations that no line has.
func notStationCounts() []int64 {
	return append(outOf(1, impl.MaxStations), -12)
}

// notBookCounts returns numbers of books that are out of their range.
func notBookCounts() []int64 {
	return append(outOf(0, impl.MaxBooks), -40)
}

// wrongFaults returns faults that are none of a line with n stations and some books.
func wrongFaults(n int64, books int64) []impl.Fault {
	var list []impl.Fault
	for _, good := range []impl.Fault{{Kind: 1}, {Book: books - 1, Station: n - 1, Kind: 2}, {Station: n - 1, Kind: 3}} {
		for _, book := range append(outOf(0, books-1), books) {
			wrong := good
			wrong.Book = book
			list = append(list, wrong)
		}
		for _, station := range append(outOf(0, n-1), n) {
			wrong := good
			wrong.Station = station
			list = append(list, wrong)
		}
		for _, kind := range append(outOf(1, 4), 0, 5) {
			wrong := good
			wrong.Kind = kind
			list = append(list, wrong)
		}
		for _, other := range append(outOf(0, n-1), 1, n-1, n, -1) {
			wrong := good
			wrong.Other = other
			if other != 0 {
				list = append(list, wrong)
			}
		}
	}
	for station := range n {
		for _, other := range append(outOf(0, n-1), station) {
			list = append(list, impl.Fault{Station: station, Kind: 4, Other: other})
		}
	}
	return list
}

// wrongBlocks returns lists that are no block of a line with n stations, each wrong at one place or
// too long.
func wrongBlocks(n int64) [][]int64 {
	long := append(countedMarks(n), countedMarks(n)...)
	list := [][]int64{
		append(slices.Clone(long), 1), append(slices.Clone(long), -n), slices.Repeat(long, 2), make([]int64, 2*n+1), make([]int64, 1000),
		slices.Repeat([]int64{n + 1}, int(2*n)), make([]int64, n), append(slices.Clone(long), 0),
	}
	for _, element := range append(outOf(-n, n), -n-1, 0, n+1) {
		for _, length := range []int64{1, n, 2 * n} {
			for _, at := range []int64{0, length / 2, length - 1} {
				block := slices.Clone(long[:length])
				block[at] = element
				list = append(list, block)
			}
		}
	}
	return list
}

func checkBooks(t *testing.T, n int64, books int64, faults []impl.Fault, want [][]int64) {
	t.Helper()
	if !impl.AreFaults(n, books, faults) {
		t.Fatalf("AreFaults(%d, %d, %v) = false", n, books, faults)
	}
	blocks, code := impl.GatherBooks(n, books, faults)
	if !sameBlocks(blocks, want) || code != impl.ErrNone {
		t.Fatalf("GatherBooks(%d, %d, %v) = %v, %d; want %v", n, books, faults, blocks, code, want)
	}
	var wrong []int64
	for book, block := range want {
		if !slices.Equal(block, countedMarks(n)) {
			wrong = append(wrong, int64(book))
		}
	}
	if list, code := impl.WrongBooks(n, books, faults); !slices.Equal(list, wrong) || code != impl.ErrNone {
		t.Fatalf("WrongBooks(%d, %d, %v) = %v, %d; want %v", n, books, faults, list, code, wrong)
	}
}

func checkBusiest(t *testing.T, n int64, books int64, faults []impl.Fault, want int64, wantCount int64) {
	t.Helper()
	if station, count, code := impl.BusiestStation(n, books, faults); station != want || count != wantCount || code != impl.ErrNone {
		t.Fatalf("BusiestStation(%d, %d, %v) = %d, %d, %d; want %d, %d", n, books, faults, station, count, code, want, wantCount)
	}
}

// checkLine checks what all functions say of the faults of a line: against blocks laid by hand, and
// against stations whose faults are counted one by one.
func checkLine(t *testing.T, n int64, books int64, faults []impl.Fault) {
	t.Helper()
	var blocks [][]int64
	for book := range books {
		blocks = append(blocks, blockByHand(n, book, faults))
	}
	checkBooks(t, n, books, faults, blocks)
	var busiest, most int64
	for station := range n {
		var count int64
		for _, f := range faults {
			if f.Station == station {
				count++
			}
		}
		if count > most {
			busiest, most = station, count
		}
	}
	checkBusiest(t, n, books, faults, busiest, most)
}

// checkNoLine checks that there are no blocks, no wrong books and no busiest station.
func checkNoLine(t *testing.T, n int64, books int64, faults []impl.Fault, want int64) {
	t.Helper()
	if impl.AreFaults(n, books, faults) {
		t.Errorf("AreFaults(%d, %d, %v) = true", n, books, faults)
	}
	if blocks, code := impl.GatherBooks(n, books, faults); len(blocks) != 0 || code != want {
		t.Errorf("GatherBooks(%d, %d, %v) = %v, %d; want %d", n, books, faults, blocks, code, want)
	}
	if list, code := impl.WrongBooks(n, books, faults); len(list) != 0 || code != want {
		t.Errorf("WrongBooks(%d, %d, %v) = %v, %d; want %d", n, books, faults, list, code, want)
	}
	if station, count, code := impl.BusiestStation(n, books, faults); station != 0 || count != 0 || code != want {
		t.Errorf("BusiestStation(%d, %d, %v) = %d, %d, %d; want %d", n, books, faults, station, count, code, want)
	}
}

// checkExplained checks the best explanation of a block, its count, and that a line with its kinds
// leaves the block.
func checkExplained(t *testing.T, n int64, block []int64, want []int64) {
	t.Helper()
	kinds, code := impl.ExplainBlock(n, block)
	if !slices.Equal(kinds, want) || code != impl.ErrNone {
		t.Fatalf("ExplainBlock(%d, %v) = %v, %d; want %v", n, block, kinds, code, want)
	}
	if count, code := impl.CountFaults(n, block); count != faultCount(want) || code != impl.ErrNone {
		t.Fatalf("CountFaults(%d, %v) = %d, %d; want %d", n, block, count, code, faultCount(want))
	}
	faults := faultsOfKinds(kinds, block)
	if blocks, code := impl.GatherBooks(n, 1, faults); !sameBlocks(blocks, [][]int64{block}) || code != impl.ErrNone {
		t.Fatalf("GatherBooks(%d, 1, %v) = %v, %d; want %v", n, faults, blocks, code, block)
	}
}

// checkUnexplained checks that a block has no explanation and no count.
func checkUnexplained(t *testing.T, n int64, block []int64, want int64) {
	t.Helper()
	if kinds, code := impl.ExplainBlock(n, block); len(kinds) != 0 || code != want {
		t.Fatalf("ExplainBlock(%d, %v) = %v, %d; want %d", n, block, kinds, code, want)
	}
	if count, code := impl.CountFaults(n, block); count != 0 || code != want {
		t.Fatalf("CountFaults(%d, %v) = %d, %d; want %d", n, block, count, code, want)
	}
}

// checkSearched checks the best explanation of a block, which a search has told, or that there is
// none.
func checkSearched(t *testing.T, n int64, block []int64, want []int64) {
	t.Helper()
	if want == nil {
		checkUnexplained(t, n, block, impl.ErrNotFound)
		return
	}
	checkExplained(t, n, block, want)
}

func checkDifference(t *testing.T, n int64, block []int64, want int64, wantCode int64) {
	t.Helper()
	if index, code := impl.FirstDifference(n, block); index != want || code != wantCode {
		t.Fatalf("FirstDifference(%d, %v) = %d, %d; want %d, %d", n, block, index, code, want, wantCode)
	}
}

// checkNoBlock checks that a list is no block.
func checkNoBlock(t *testing.T, n int64, block []int64) {
	t.Helper()
	checkUnexplained(t, n, block, impl.ErrRange)
	checkDifference(t, n, block, 0, impl.ErrRange)
}

func TestGatheringLimits(t *testing.T) {
	if impl.MaxStations != 12 || impl.MaxBooks != 40 || impl.MaxFaults != 20 {
		t.Errorf("the limits are %d, %d, %d", impl.MaxStations, impl.MaxBooks, impl.MaxFaults)
	}
	if impl.FaultMissing != 1 || impl.FaultDouble != 2 || impl.FaultTurned != 3 || impl.FaultWrong != 4 {
		t.Errorf("the kinds are %d, %d, %d, %d", impl.FaultMissing, impl.FaultDouble, impl.FaultTurned, impl.FaultWrong)
	}
}

func TestGatherBooks(t *testing.T) {
	for _, c := range []struct {
		n, books int64
		faults   string
		want     string
	}{
		{1, 1, "", "1"},
		{1, 1, "0/0m", ""},
		{1, 1, "0/0d", "1 1"},
		{1, 1, "0/0t", "-1"},
		{3, 2, "", "1 2 3,1 2 3"},
		{3, 4, "1/0m 1/2d 2/1t 3/1w2", "1 2 3,2 3 3,1 -2 3,1 3 3"},
		{3, 4, "3/1w2 1/2d 2/1t 1/0m", "1 2 3,2 3 3,1 -2 3,1 3 3"},
		{3, 3, "0/0w2 2/2w0 1/0w1 1/1w0", "3 2 3,2 1 3,1 2 1"},
		{2, 3, "0/0m 0/1m 2/0d 2/1d", ",1 2,1 1 2 2"},
		{2, 2, "1/0w1 1/1w0", "1 2,2 1"},
		{12, 1, "0/0d 0/5t 0/11w4", "1 1 2 3 4 5 -6 7 8 9 10 11 5"},
		{12, 1, "0/0w11 0/6m 0/11t", "12 2 3 4 5 6 8 9 10 11 -12"},
		{4, 5, "4/3t", "1 2 3 4,1 2 3 4,1 2 3 4,1 2 3 4,1 2 3 -4"},
	} {
		checkBooks(t, c.n, c.books, faultsOf(c.faults), blocksOf(c.want))
		checkLine(t, c.n, c.books, faultsOf(c.faults))
	}
}

// TestBooksOfShortLines checks all faults of one book on short lines, when it is the only one, the
// first, a middle and the last one, and that a book is wrong exactly if it has faults.
func TestBooksOfShortLines(t *testing.T) {
	for n := int64(1); n <= 4; n++ {
		for _, faults := range oneBookFaults(n) {
			checkLine(t, n, 1, faults)
			for book := range int64(3) {
				moved := onBook(faults, book)
				checkLine(t, n, 3, moved)
				wrong, _ := impl.WrongBooks(n, 3, moved)
				if len(faults) == 0 && len(wrong) != 0 || len(faults) != 0 && !slices.Equal(wrong, []int64{book}) {
					t.Fatalf("WrongBooks(%d, 3, %v) = %v", n, moved, wrong)
				}
			}
		}
	}
}

// TestManyBooks checks lines of all lengths with few and many books and faults.
func TestManyBooks(t *testing.T) {
	for n := int64(1); n <= 12; n++ {
		for _, books := range []int64{1, 2, 3, 7, 39, 40} {
			for _, count := range []int{0, 1, 2, 7, 19, 20} {
				for seed := range int64(4) {
					checkLine(t, n, books, faultsFrom(seed+n, n, books, count))
				}
			}
		}
	}
}

// TestNoBooks checks that a line without books leaves nothing and can have no faults.
func TestNoBooks(t *testing.T) {
	for n := int64(1); n <= 12; n++ {
		checkLine(t, n, 0, nil)
		checkLine(t, n, 0, []impl.Fault{})
		for _, f := range []impl.Fault{{}, {Kind: 1}, {Kind: 4, Other: n - 1}, {Book: -1, Kind: 1}, {Book: 40, Kind: 2}} {
			checkNoLine(t, n, 0, []impl.Fault{f}, impl.ErrInvalid)
		}
	}
}

// TestFaultsAtEachStation checks each kind of fault, with all others, at all stations of all lines,
// and that it is explained by itself or by as few.
func TestFaultsAtEachStation(t *testing.T) {
	for n := int64(1); n <= 12; n++ {
		for station := range n {
			for kind := int64(1); kind <= 3; kind++ {
				checkLoneFault(t, n, impl.Fault{Station: station, Kind: kind})
			}
			for other := range n {
				if other != station {
					checkLoneFault(t, n, impl.Fault{Station: station, Kind: 4, Other: other})
				}
			}
		}
	}
}

// checkLoneFault checks the block that one fault leaves. One fault alone is explained by nothing
// else, since all blocks of lines with one fault differ.
func checkLoneFault(t *testing.T, n int64, f impl.Fault) {
	t.Helper()
	faults := []impl.Fault{f}
	checkLine(t, n, 1, faults)
	block := blockByHand(n, 0, faults)
	checkExplained(t, n, block, kindsOfFaults(n, faults))
	for _, books := range []int64{2, 40} {
		checkLine(t, n, books, onBook(faults, books-1))
	}
	want := f.Station
	if f.Kind == impl.FaultDouble {
		want++
	}
	checkDifference(t, n, block, want, impl.ErrNone)
}

// TestFaultsAtAllStations checks lines all of whose stations have a fault of one kind.
func TestFaultsAtAllStations(t *testing.T) {
	for n := int64(1); n <= 12; n++ {
		for kind := int64(1); kind <= 4; kind++ {
			for shift := int64(1); shift < max(n, 2); shift++ {
				if kind == 4 && n == 1 {
					continue
				}
				var faults []impl.Fault
				for station := range n {
					f := impl.Fault{Station: station, Kind: kind}
					if kind == 4 {
						f.Other = (station + shift) % n
					}
					faults = append(faults, f)
				}
				checkLine(t, n, 1, faults)
				block := blockByHand(n, 0, faults)
				checkSearched(t, n, block, explainedForward(n, block))
				if kind != 4 {
					checkExplained(t, n, block, slices.Repeat([]int64{kind}, int(n)))
				}
			}
		}
	}
}

func TestBusiestStation(t *testing.T) {
	for _, c := range []struct {
		n, books      int64
		faults        string
		want, wantFor int64
	}{
		{1, 0, "", 0, 0},
		{1, 1, "", 0, 0},
		{12, 40, "", 0, 0},
		{1, 3, "0/0m 1/0d 2/0t", 0, 3},
		{3, 4, "1/0m 1/2d 2/1t 3/1w2", 1, 2},
		{3, 4, "0/2m", 2, 1},
		{3, 4, "0/2m 0/1m", 1, 1},
		{3, 4, "0/2m 0/1m 0/0m", 0, 1},
		{3, 4, "0/2m 1/1m 2/2t 3/1t", 1, 2},
		{3, 4, "0/1m 1/2m 2/1t 3/2t 3/1d 2/2w0 1/0t", 1, 3},
		{3, 4, "0/2w0 1/2w0 0/0m", 2, 2},
		{12, 40, "0/11m 39/11m 20/0t", 11, 2},
	} {
		checkBusiest(t, c.n, c.books, faultsOf(c.faults), c.want, c.wantFor)
	}
}

func TestRightBlock(t *testing.T) {
	for n := int64(1); n <= 12; n++ {
		want := countedMarks(n)
		block, code := impl.RightBlock(n)
		if !slices.Equal(block, want) || code != impl.ErrNone {
			t.Errorf("RightBlock(%d) = %v, %d; want %v", n, block, code, want)
		}
		checkExplained(t, n, want, make([]int64, n))
		checkDifference(t, n, want, 0, impl.ErrNotFound)
		checkBooks(t, n, 1, nil, [][]int64{want})
	}
}

func TestFirstDifference(t *testing.T) {
	for _, c := range []struct {
		n     int64
		block string
		want  int64
	}{
		{1, "", 0},
		{1, "-1", 0},
		{1, "1 1", 1},
		{1, "1 -1", 1},
		{1, "-1 1", 0},
		{3, "", 0},
		{3, "1", 1},
		{3, "1 2", 2},
		{3, "2", 0},
		{3, "3 2 1", 0},
		{3, "1 3 2", 1},
		{3, "1 2 -3", 2},
		{3, "1 2 3 3", 3},
		{3, "1 2 3 1 2 3", 3},
		{3, "1 2 2 3", 2},
		{3, "1 1 2 3", 1},
		{3, "-1 -2 -3 -1 -2 -3", 0},
		{12, "1 2 3 4 5 6 7 8 9 10 11", 11},
		{12, "1 2 3 4 5 6 7 8 9 10 11 12 12", 12},
		{12, "1 2 3 4 5 6 7 8 9 10 12 11", 10},
	} {
		checkDifference(t, c.n, blockOf(c.block), c.want, impl.ErrNone)
	}
}

// TestDifferencesOfAllLines checks blocks that are too short and too long, and that differ in one
// element only, on lines of all lengths.
func TestDifferencesOfAllLines(t *testing.T) {
	for n := int64(1); n <= 12; n++ {
		right := countedMarks(n)
		for length := range n {
			checkDifference(t, n, right[:length], length, impl.ErrNone)
		}
		for longer := int64(1); longer <= n; longer++ {
			for _, more := range []int64{1, n, -n} {
				checkDifference(t, n, append(slices.Clip(right), slices.Repeat([]int64{more}, int(longer))...), n, impl.ErrNone)
			}
		}
		for at := range n {
			for element := -n; element <= n; element++ {
				if element == 0 || element == right[at] {
					continue
				}
				block := slices.Clone(right)
				block[at] = element
				checkDifference(t, n, block, at, impl.ErrNone)
				checkDifference(t, n, append(block, n), at, impl.ErrNone)
			}
		}
	}
}

func TestExplainBlock(t *testing.T) {
	for _, c := range []struct {
		n           int64
		block, want string
	}{
		{1, "", "1"},
		{1, "1", "0"},
		{1, "-1", "3"},
		{1, "1 1", "2"},
		{2, "2", "1 0"},
		{2, "1", "0 1"},
		{2, "1 1", "0 4"},
		{2, "2 2", "4 0"},
		{2, "2 1", "4 4"},
		{2, "2 -2", "4 3"},
		{2, "1 1 1", "2 4"},
		{2, "2 2 2", "4 2"},
		{2, "1 2 2", "0 2"},
		{2, "1 1 2 2", "2 2"},
		{3, "1 2 3", "0 0 0"},
		{3, "", "1 1 1"},
		{3, "2", "1 0 1"},
		{3, "-2", "1 3 1"},
		{3, "1 2", "0 0 1"},
		{3, "2 3", "1 0 0"},
		{3, "3 3", "1 4 0"},
		{3, "2 3 3", "1 0 2"},
		{3, "1 -2 3", "0 3 0"},
		{3, "1 3 3", "0 4 0"},
		{3, "1 1 3", "0 4 0"},
		{3, "1 2 2", "0 0 4"},
		{3, "1 1 2 2 3", "2 2 0"},
		{3, "1 1 -2 3", "2 3 0"},
		{3, "1 1 2 3 3", "2 0 2"},
		{3, "1 1 1 1", "2 4 4"},
		{3, "3 1 2", "4 4 4"},
		{3, "2 2 3", "4 0 0"},
		{4, "1 1 3", "0 4 0 1"},
		{4, "1 1 1", "0 1 4 4"},
		{4, "3 4", "1 1 0 0"},
		{4, "1 1 4", "0 1 4 0"},
		{4, "2 3 4 4", "1 0 0 2"},
		{12, "12", "1 1 1 1 1 1 1 1 1 1 1 0"},
		{12, "2 3 4 5 6 7 8 9 10 11 12 12", "1 0 0 0 0 0 0 0 0 0 0 2"},
		{12, "-1 2 3 4 5 6 7 8 9 10 11 -12", "3 0 0 0 0 0 0 0 0 0 0 3"},
	} {
		block := blockOf(c.block)
		checkExplained(t, c.n, block, blockOf(c.want))
		if forward := explainedForward(c.n, block); !slices.Equal(forward, blockOf(c.want)) {
			t.Errorf("the search finds %v for %d and %v", forward, c.n, block)
		}
	}
}

func TestUnexplainedBlocks(t *testing.T) {
	for _, c := range []struct {
		n     int64
		block string
	}{
		{1, "1 -1"},
		{1, "-1 1"},
		{1, "-1 -1"},
		{2, "-2 1"},
		{2, "-2 -1"},
		{2, "-1 -1"},
		{2, "-2 2"},
		{2, "2 2 1"},
		{2, "1 2 1"},
		{2, "1 1 2 1"},
		{2, "2 2 1 1"},
		{3, "-3 1"},
		{3, "1 2 3 1"},
		{3, "1 2 3 1 2 3"},
		{3, "1 2 3 -3"},
		{3, "1 1 1 1 1 1"},
		{12, "-12 1"},
		{12, "1 2 3 4 5 6 7 8 9 10 11 12 -12"},
		{12, "1 2 3 4 5 6 7 8 9 10 11 12 1 2 3 4 5 6 7 8 9 10 11 12"},
	} {
		checkUnexplained(t, c.n, blockOf(c.block), impl.ErrNotFound)
	}
}

// TestExplainAllShortBlocks checks all lists of short lines against a search of all faults: blocks,
// with an explanation or without one, and lists with a 0 or with one element too many. It also
// counts those that have several explanations.
func TestExplainAllShortBlocks(t *testing.T) {
	equal, different, unexplained := 0, 0, 0
	for n := int64(1); n <= 4; n++ {
		known := explanationsByBlock(n)
		for length := range min(int(2*n)+2, 7) {
			for _, block := range listsFrom(-n, n, length) {
				if slices.Contains(block, 0) || length > int(2*n) {
					checkNoBlock(t, n, block)
					continue
				}
				explanations := known[fmt.Sprint(block)]
				if len(explanations) == 0 {
					unexplained++
					checkUnexplained(t, n, block, impl.ErrNotFound)
					continue
				}
				slices.SortFunc(explanations, compareExplanations)
				checkExplained(t, n, block, explanations[0])
				if len(explanations) > 1 && faultCount(explanations[1]) == faultCount(explanations[0]) {
					equal++
				}
				if faultCount(explanations[len(explanations)-1]) > faultCount(explanations[0]) {
					different++
				}
			}
			if n == 4 && length == 5 {
				break
			}
		}
	}
	if equal < 100 || different < 100 || unexplained < 100 {
		t.Errorf("%d blocks have several best explanations, %d worse ones, %d none", equal, different, unexplained)
	}
}

// TestExplainAllShortLines checks the blocks that all faults of short lines leave: each has the best
// explanation of all that leave it, with at most as many faults.
func TestExplainAllShortLines(t *testing.T) {
	for n := int64(1); n <= 5; n++ {
		known := explanationsByBlock(n)
		for _, faults := range oneBookFaults(n) {
			block := blockByHand(n, 0, faults)
			if want := slices.MinFunc(known[fmt.Sprint(block)], compareExplanations); n < 5 || len(faults)%2 == 1 {
				checkExplained(t, n, block, want)
			}
			if count, code := impl.CountFaults(n, block); count > int64(len(faults)) || code != impl.ErrNone {
				t.Fatalf("CountFaults(%d, %v) = %d, %d for %v", n, block, count, code, faults)
			}
		}
	}
}

// TestExplainLongBlocks checks blocks that faults of longer lines leave, and the same blocks with one
// element changed, doubled or left out, which often have no explanation.
func TestExplainLongBlocks(t *testing.T) {
	better, unexplained := 0, 0
	for n := int64(1); n <= 12; n++ {
		for seed := range int64(60) {
			faults := faultsFrom(seed*13+n, n, 1, int(seed)%18)
			block := blockByHand(n, 0, faults)
			best := explainedForward(n, block)
			if faultCount(best) > int64(len(faults)) {
				t.Fatalf("the search finds %v for %v", best, block)
			}
			if faultCount(best) < int64(len(faults)) {
				better++
			}
			checkExplained(t, n, block, best)
			for _, changed := range changedBlocks(n, block, seed) {
				want := explainedForward(n, changed)
				checkSearched(t, n, changed, want)
				if want == nil {
					unexplained++
				}
			}
		}
	}
	if better < 20 || unexplained < 100 {
		t.Errorf("%d blocks have better explanations, %d none", better, unexplained)
	}
}

// changedBlocks returns blocks that differ from a block in one element.
func changedBlocks(n int64, block []int64, seed int64) [][]int64 {
	var list [][]int64
	elements := lengthsFrom(seed+99, len(block), 1, n)
	for at, element := range elements {
		if (seed+int64(at))%2 == 0 {
			element = -element
		}
		changed := slices.Clone(block)
		changed[at] = element
		list = append(list, changed, slices.Delete(slices.Clone(block), at, at+1))
		if int64(len(block)) < 2*n {
			list = append(list, slices.Insert(slices.Clone(block), at, element), slices.Insert(slices.Clone(block), at, block[at]))
		}
	}
	return list
}

// TestExplainAnyBlocks checks blocks of all lengths whose elements are any ones, with few and with
// many different elements.
func TestExplainAnyBlocks(t *testing.T) {
	for n := int64(1); n <= 12; n++ {
		for length := range int(2*n) + 1 {
			for seed := range int64(20) {
				low := max(1, n-seed%4)
				block := lengthsFrom(seed*7+int64(length), length, low, n)
				if length > 0 && seed%5 == 0 {
					block[seed%int64(length)] *= -1
				}
				checkSearched(t, n, block, explainedForward(n, block))
				sorted := slices.Sorted(slices.Values(block))
				checkSearched(t, n, sorted, explainedForward(n, sorted))
			}
		}
	}
}

// TestGuaranteeOfTheLine checks that books without faults are right, and that each block of a line with many
// books has an explanation with at most as many faults as the book has.
func TestGuaranteeOfTheLine(t *testing.T) {
	for n := int64(1); n <= 12; n++ {
		for seed := range int64(20) {
			books := 1 + (seed+n)%6
			faults := faultsFrom(seed*3+n, n, books, 20)
			blocks, code := impl.GatherBooks(n, books, faults)
			if code != impl.ErrNone || int64(len(blocks)) != books {
				t.Fatalf("GatherBooks(%d, %d, %v) = %v, %d", n, books, faults, blocks, code)
			}
			for book, block := range blocks {
				var made int64
				for _, f := range faults {
					if f.Book == int64(book) {
						made++
					}
				}
				if count, code := impl.CountFaults(n, block); count > made || code != impl.ErrNone {
					t.Fatalf("CountFaults(%d, %v) = %d, %d; %d faults were made", n, block, count, code, made)
				}
				if made == 0 && !slices.Equal(block, countedMarks(n)) {
					t.Fatalf("GatherBooks(%d, %d, %v) leaves %v without a fault", n, books, faults, block)
				}
			}
		}
	}
}

// TestNotBlocks checks lists that are too long or have elements out of their range.
func TestNotBlocks(t *testing.T) {
	for n := int64(1); n <= 12; n++ {
		for _, block := range wrongBlocks(n) {
			checkNoBlock(t, n, block)
		}
		for _, element := range []int64{-n, -1, 1, n} {
			for _, length := range []int64{0, 1, n, 2 * n} {
				block := slices.Repeat([]int64{element}, int(length))
				checkSearched(t, n, block, explainedForward(n, block))
			}
			checkNoBlock(t, n, slices.Repeat([]int64{element}, int(2*n)+1))
		}
	}
}

// TestNotStationCounts checks numbers of stations that no line has, whatever the block is.
func TestNotStationCounts(t *testing.T) {
	for _, n := range notStationCounts() {
		if block, code := impl.RightBlock(n); len(block) != 0 || code != impl.ErrRange {
			t.Errorf("RightBlock(%d) = %v, %d", n, block, code)
		}
		for _, block := range [][]int64{nil, {}, {1}, {-1}, {0}, {n}, countedMarks(12), countedMarks(13), countedMarks(26), countedMarks(27)} {
			checkNoBlock(t, n, block)
		}
	}
}

// TestNotLines checks numbers of stations and books that are out of their ranges, together with
// faults that are some of other lines, and with ones that are none of any line.
func TestNotLines(t *testing.T) {
	invalid := append(slices.Repeat(faultsOf("0/0m"), 2), impl.Fault{Kind: 9})
	lists := [][]impl.Fault{nil, {}, faultsOf("0/0m"), faultsOf("0/1w0"), invalid, make([]impl.Fault, 21), fullFaults(), append(fullFaults(), impl.Fault{Book: 2, Kind: 1})}
	for _, faults := range lists {
		for _, n := range notStationCounts() {
			for _, books := range append(notBookCounts(), 0, 1, 2, 40) {
				checkNoLine(t, n, books, faults, impl.ErrRange)
			}
		}
		for _, books := range notBookCounts() {
			for _, n := range []int64{1, 2, 11, 12} {
				checkNoLine(t, n, books, faults, impl.ErrRange)
			}
		}
	}
}

// TestWrongFaults checks faults with a number out of its range, alone and behind, before and between
// right ones.
func TestWrongFaults(t *testing.T) {
	for _, n := range []int64{1, 2, 3, 12} {
		for _, books := range []int64{1, 2, 40} {
			right := impl.Fault{Book: books - 1, Kind: 2}
			for _, wrong := range wrongFaults(n, books) {
				checkNoLine(t, n, books, []impl.Fault{wrong}, impl.ErrInvalid)
				checkNoLine(t, n, books, []impl.Fault{wrong, right}, impl.ErrInvalid)
				checkNoLine(t, n, books, []impl.Fault{right, wrong}, impl.ErrInvalid)
			}
		}
	}
	full := fullFaults()
	for _, wrong := range wrongFaults(12, 2) {
		for _, at := range []int{0, 10, 19} {
			faults := slices.Clone(full)
			faults[at] = wrong
			checkNoLine(t, 12, 2, faults, impl.ErrInvalid)
		}
	}
}

// TestRangesOfFaults checks all faults around the valid ones of small lines.
func TestRangesOfFaults(t *testing.T) {
	for n := int64(1); n <= 3; n++ {
		for books := range int64(3) {
			for _, numbers := range listsFrom(-1, 5, 4) {
				f := impl.Fault{Book: numbers[0], Station: numbers[1], Kind: numbers[2], Other: numbers[3]}
				placed := f.Book >= 0 && f.Book < books && f.Station >= 0 && f.Station < n
				plain := f.Kind >= 1 && f.Kind <= 3 && f.Other == 0
				wrong := f.Kind == 4 && f.Other >= 0 && f.Other < n && f.Other != f.Station
				if placed && (plain || wrong) {
					checkLine(t, n, books, []impl.Fault{f})
				} else {
					checkNoLine(t, n, books, []impl.Fault{f}, impl.ErrInvalid)
				}
			}
		}
	}
}

// TestNumbersOfFaults checks as many faults as there may be, and more.
func TestNumbersOfFaults(t *testing.T) {
	full := fullFaults()
	for count := range 21 {
		checkLine(t, 12, 2, full[:count])
		checkLine(t, 12, 40, onBook(full[:min(count, 12)], 39))
	}
	for _, more := range []impl.Fault{{Book: 1, Station: 11, Kind: 1}, {Book: 39, Station: 11, Kind: 4}} {
		checkNoLine(t, 12, 40, append(slices.Clone(full), more), impl.ErrInvalid)
	}
	var one []impl.Fault
	for book := range int64(40) {
		one = append(one, impl.Fault{Book: book, Kind: book%3 + 1})
	}
	checkLine(t, 1, 40, one[:20])
	checkLine(t, 1, 40, one[20:])
	checkNoLine(t, 1, 40, one[:21], impl.ErrInvalid)
	checkNoLine(t, 1, 40, one, impl.ErrInvalid)
}

// TestTwoFaults checks two faults for the same book and station, next to each other and far apart,
// and two that have only one of both in common.
func TestTwoFaults(t *testing.T) {
	kinds := []impl.Fault{{Kind: 1}, {Kind: 2}, {Kind: 3}, {Kind: 4, Other: 0}, {Kind: 4, Other: 3}}
	between := faultsOf("0/0m 1/0d 2/0t 3/0w1 0/1w0 1/1m 3/1d 0/2m 1/2d 2/2t 3/2w0 0/3m 1/3d 2/3t 3/3w0")
	for _, first := range kinds {
		for _, second := range kinds {
			first.Book, first.Station, second.Book, second.Station = 2, 1, 2, 1
			checkNoLine(t, 4, 4, []impl.Fault{first, second}, impl.ErrInvalid)
			checkNoLine(t, 4, 4, slices.Concat([]impl.Fault{first}, between, []impl.Fault{second}), impl.ErrInvalid)
			checkNoLine(t, 4, 4, slices.Concat(between, []impl.Fault{first, second}), impl.ErrInvalid)
			checkNoLine(t, 4, 4, slices.Concat([]impl.Fault{first, second}, between), impl.ErrInvalid)
			checkLine(t, 4, 4, append([]impl.Fault{first}, between...))
			second.Book = 3
			checkLine(t, 4, 4, []impl.Fault{first, second})
			if second.Other != 2 {
				second.Book, second.Station = 2, 2
				checkLine(t, 4, 4, []impl.Fault{first, second})
				checkLine(t, 4, 4, []impl.Fault{second, first})
			}
		}
	}
	for _, same := range faultsOf("0/0m 0/1d 1/2t 1/0w3") {
		checkNoLine(t, 4, 2, []impl.Fault{same, same}, impl.ErrInvalid)
		checkNoLine(t, 4, 2, slices.Repeat([]impl.Fault{same}, 20), impl.ErrInvalid)
	}
}

// TestOrderOfFaults checks that it does not matter in which order faults stand.
func TestOrderOfFaults(t *testing.T) {
	faults := faultsOf("1/0m 1/2d 2/1t 3/1w2 0/0w1")
	want := blocksOf("2 2 3,2 3 3,1 -2 3,1 3 3")
	for _, order := range allOrders(len(faults)) {
		var moved []impl.Fault
		for _, i := range order {
			moved = append(moved, faults[i])
		}
		checkBooks(t, 3, 4, moved, want)
		checkBusiest(t, 3, 4, moved, 0, 2)
	}
}

// TestSameBlocksEveryTime checks that repeated and simultaneous calls agree.
func TestSameBlocksEveryTime(t *testing.T) {
	faults := fullFaults()
	var want [][]int64
	for book := range int64(40) {
		want = append(want, blockByHand(12, book, faults))
	}
	kinds := explainedForward(12, want[0])
	var calls sync.WaitGroup
	for range 8 {
		calls.Go(func() {
			for range 20 {
				if blocks, code := impl.GatherBooks(12, 40, faults); !sameBlocks(blocks, want) || code != impl.ErrNone {
					t.Errorf("GatherBooks = %v, %d; want %v", blocks, code, want)
				}
				if list, code := impl.WrongBooks(12, 40, faults); !slices.Equal(list, []int64{0, 1}) || code != impl.ErrNone {
					t.Errorf("WrongBooks = %v, %d", list, code)
				}
				if list, code := impl.ExplainBlock(12, want[0]); !slices.Equal(list, kinds) || code != impl.ErrNone {
					t.Errorf("ExplainBlock = %v, %d; want %v", list, code, kinds)
				}
			}
		})
	}
	calls.Wait()
}

// TestGatheringKeepsItsArguments checks that no list is changed, nor the capacity behind it.
func TestGatheringKeepsItsArguments(t *testing.T) {
	spare := impl.Fault{Book: 7, Station: 7, Kind: 7, Other: 7}
	for count := range 20 {
		want := fullFaults()[:count]
		faults := spareCopy(want, spare)
		impl.AreFaults(12, 2, faults)
		impl.GatherBooks(12, 2, faults)
		impl.WrongBooks(12, 2, faults)
		impl.BusiestStation(12, 2, faults)
		if !keptSpare(faults, want, spare) {
			t.Fatalf("%v was changed to %v", want, faults[:count+3])
		}
		wantBlock := blockByHand(12, 0, want)
		block := spareCopy(wantBlock, 77)
		impl.FirstDifference(12, block)
		impl.ExplainBlock(12, block)
		impl.CountFaults(12, block)
		if !keptSpare(block, wantBlock, 77) {
			t.Fatalf("%v was changed to %v", wantBlock, block[:len(wantBlock)+3])
		}
	}
}

// TestBlocksAreNotShared checks that the blocks of one call have no memory in common, spare capacity
// included, and that results are new each time.
func TestBlocksAreNotShared(t *testing.T) {
	faults := fullFaults()
	want, _ := impl.GatherBooks(12, 40, faults)
	for book := range want {
		blocks, _ := impl.GatherBooks(12, 40, faults)
		all := blocks[book][:cap(blocks[book])]
		for i := range all {
			all[i] = math.MinInt64
		}
		for other, block := range blocks {
			if other != book && !slices.Equal(block, want[other]) {
				t.Fatalf("the block of the book %d became %v when that of %d was changed", other, block, book)
			}
		}
	}
	if !sameBlocks(want[2:], slices.Repeat([][]int64{countedMarks(12)}, 38)) {
		t.Errorf("blocks became %v when those of other calls were changed", want)
	}
	for range 3 {
		right, _ := impl.RightBlock(12)
		kinds, _ := impl.ExplainBlock(12, countedMarks(12))
		wrong, _ := impl.WrongBooks(12, 40, faults)
		if !slices.Equal(right, countedMarks(12)) || !slices.Equal(kinds, make([]int64, 12)) || !slices.Equal(wrong, []int64{0, 1}) {
			t.Fatalf("results became %v, %v, %v when those of other calls were changed", right, kinds, wrong)
		}
		for _, list := range [][]int64{right, kinds, wrong} {
			all := list[:cap(list)]
			for i := range all {
				all[i] = math.MaxInt64
			}
		}
	}
}

// TestNilAndEmptyBlocks checks that lists without elements are the same, whether nil or not.
func TestNilAndEmptyBlocks(t *testing.T) {
	for n := int64(1); n <= 12; n++ {
		for _, none := range [][]int64{nil, {}} {
			checkExplained(t, n, none, slices.Repeat([]int64{impl.FaultMissing}, int(n)))
			checkDifference(t, n, none, 0, impl.ErrNone)
		}
		for _, none := range [][]impl.Fault{nil, {}} {
			checkLine(t, n, 40, none)
			checkBusiest(t, n, 40, none, 0, 0)
		}
	}
}
