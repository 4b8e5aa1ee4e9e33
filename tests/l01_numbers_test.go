package tests

import (
	"math"
	"slices"
	"strings"
	"testing"

	"loop.example/g00944/impl"
)

// firstOrder returns the order 0, 1, ..., n - 1.
func firstOrder(n int) []int64 {
	p := make([]int64, n)
	for i := range p {
		p[i] = int64(i)
	}
	return p
}

// lastOrder returns the order n - 1, ..., 1, 0.
func lastOrder(n int) []int64 {
	p := firstOrder(n)
	slices.Reverse(p)
	return p
}

// allOrders returns all orders of n things, lexicographically: it tries every first thing in turn
// before all orders of the others, so it shares nothing with the ranks that it is to check.
func allOrders(n int) [][]int64 {
	var result [][]int64
	var extend func(begun []int64)
	extend = func(begun []int64) {
		if len(begun) == n {
			result = append(result, slices.Clone(begun))
			return
		}
		for thing := range int64(n) {
			if !slices.Contains(begun, thing) {
				extend(append(slices.Clip(begun), thing))
			}
		}
	}
	extend(nil)
	return result
}

// stepOrder returns the order of n things that goes on by step each time, for a step that has no
// divisor in common with n.
func stepOrder(n int, step int) []int64 {
	p := make([]int64, n)
	for i := range p {
		p[i] = int64((i*step + 1) % n)
	}
	return p
}

// notOrders returns lists that are no orders.
func notOrders() map[string][]int64 {
	twiceAtLimit := firstOrder(impl.MaxOrder)
	twiceAtLimit[impl.MaxOrder-1] = 0
	return map[string][]int64{
		"one too great":       {1},
		"one negative":        {-1},
		"twice the same":      {0, 0},
		"twice the last":      {1, 1},
		"a hole":              {0, 2},
		"counted from 1":      {1, 2, 3},
		"negative behind":     {0, 1, -2},
		"very great":          {0, math.MaxInt64},
		"very small":          {math.MinInt64, 0},
		"2 to the power 32":   {1 << 32, 1},
		"twice at the limit":  twiceAtLimit,
		"too great at limit":  append(firstOrder(impl.MaxOrder-1), impl.MaxOrder),
		"one past the limit":  firstOrder(impl.MaxOrder + 1),
		"far past the limit":  firstOrder(1000),
		"opposite, too long":  lastOrder(impl.MaxOrder + 1),
		"too long, all equal": make([]int64, impl.MaxOrder+1),
	}
}

func TestIsOrder(t *testing.T) {
	for n := range 6 {
		for _, p := range allOrders(n) {
			if !impl.IsOrder(p) {
				t.Errorf("IsOrder(%v) = false", p)
			}
		}
	}
	for _, p := range [][]int64{nil, {}, firstOrder(impl.MaxOrder), lastOrder(impl.MaxOrder), stepOrder(impl.MaxOrder, 27)} {
		if !impl.IsOrder(p) {
			t.Errorf("IsOrder(%v) = false", p)
		}
	}
	for name, p := range notOrders() {
		if impl.IsOrder(p) {
			t.Errorf("%s: IsOrder(%v) = true", name, p)
		}
	}
}

// TestIsOrderOfAllLists holds IsOrder against all lists of three numbers around the valid ones.
func TestIsOrderOfAllLists(t *testing.T) {
	orders := allOrders(3)
	for a := int64(-1); a <= 3; a++ {
		for b := int64(-1); b <= 3; b++ {
			for c := int64(-1); c <= 3; c++ {
				p := []int64{a, b, c}
				want := slices.ContainsFunc(orders, func(q []int64) bool { return slices.Equal(p, q) })
				if got := impl.IsOrder(p); got != want {
					t.Errorf("IsOrder(%v) = %v", p, got)
				}
			}
		}
	}
}

func TestInverseOrder(t *testing.T) {
	for _, c := range []struct{ p, want []int64 }{
		{nil, nil},
		{[]int64{}, nil},
		{[]int64{0}, []int64{0}},
		{[]int64{2, 0, 1}, []int64{1, 2, 0}},
		{[]int64{3, 0, 1, 2}, []int64{1, 2, 3, 0}},
		{firstOrder(impl.MaxOrder), firstOrder(impl.MaxOrder)},
		{lastOrder(impl.MaxOrder), lastOrder(impl.MaxOrder)},
	} {
		if got, code := impl.InverseOrder(c.p); !slices.Equal(got, c.want) || code != impl.ErrNone {
			t.Errorf("InverseOrder(%v) = %v, %d; want %v", c.p, got, code, c.want)
		}
	}
	for name, p := range notOrders() {
		if got, code := impl.InverseOrder(p); got != nil || code != impl.ErrInvalid {
			t.Errorf("%s: InverseOrder = %v, %d", name, got, code)
		}
	}
}

func TestComposeOrders(t *testing.T) {
	for _, c := range []struct{ p, q, want []int64 }{
		{nil, nil, nil},
		{nil, []int64{}, nil},
		{[]int64{0}, []int64{0}, []int64{0}},
		{[]int64{2, 0, 1}, []int64{0, 2, 1}, []int64{2, 1, 0}},
		{[]int64{0, 2, 1}, []int64{2, 0, 1}, []int64{1, 0, 2}},
		{[]int64{1, 2, 3, 0}, []int64{1, 2, 3, 0}, []int64{2, 3, 0, 1}},
		{lastOrder(impl.MaxOrder), lastOrder(impl.MaxOrder), firstOrder(impl.MaxOrder)},
	} {
		if got, code := impl.ComposeOrders(c.p, c.q); !slices.Equal(got, c.want) || code != impl.ErrNone {
			t.Errorf("ComposeOrders(%v, %v) = %v, %d; want %v", c.p, c.q, got, code, c.want)
		}
	}
}

func TestComposeOrdersErrors(t *testing.T) {
	for name, bad := range notOrders() {
		// An order with as many elements where there is one, and another length: ErrInvalid comes first.
		for _, good := range [][]int64{firstOrder(min(len(bad), impl.MaxOrder)), nil, firstOrder(5)} {
			if got, code := impl.ComposeOrders(bad, good); got != nil || code != impl.ErrInvalid {
				t.Errorf("%s at first: ComposeOrders = %v, %d", name, got, code)
			}
			if got, code := impl.ComposeOrders(good, bad); got != nil || code != impl.ErrInvalid {
				t.Errorf("%s at second: ComposeOrders = %v, %d", name, got, code)
			}
		}
		if got, code := impl.ComposeOrders(bad, bad); got != nil || code != impl.ErrInvalid {
			t.Errorf("%s twice: ComposeOrders = %v, %d", name, got, code)
		}
	}
	for _, c := range [][2]int{{0, 1}, {1, 0}, {2, 3}, {3, 2}, {impl.MaxOrder - 1, impl.MaxOrder}, {impl.MaxOrder, 1}} {
		if got, code := impl.ComposeOrders(firstOrder(c[0]), firstOrder(c[1])); got != nil || code != impl.ErrState {
			t.Errorf("ComposeOrders of %d and %d things = %v, %d", c[0], c[1], got, code)
		}
	}
}

// TestInversesLeaveAllInPlace is the first part of the guarantee of chapter 1.
func TestInversesLeaveAllInPlace(t *testing.T) {
	var orders [][]int64
	for n := range 7 {
		orders = append(orders, allOrders(n)...)
	}
	for step := 1; step < impl.MaxOrder; step += 2 {
		orders = append(orders, stepOrder(impl.MaxOrder, step))
	}
	for step := 1; step < 61; step++ {
		orders = append(orders, stepOrder(61, step))
	}
	for _, p := range orders {
		q, code := impl.InverseOrder(p)
		if code != impl.ErrNone || !impl.IsOrder(q) || len(q) != len(p) {
			t.Fatalf("InverseOrder(%v) = %v, %d", p, q, code)
		}
		for place, thing := range p {
			if q[thing] != int64(place) {
				t.Fatalf("InverseOrder(%v) = %v", p, q)
			}
		}
		for _, pair := range [][2][]int64{{p, q}, {q, p}} {
			got, code := impl.ComposeOrders(pair[0], pair[1])
			if code != impl.ErrNone || !slices.Equal(got, firstOrder(len(p))) {
				t.Fatalf("ComposeOrders(%v, %v) = %v, %d", pair[0], pair[1], got, code)
			}
		}
	}
}

// TestComposeOrdersOfAllPairs tells p[q[i]] from q[p[i]].
func TestComposeOrdersOfAllPairs(t *testing.T) {
	orders := allOrders(4)
	for _, p := range orders {
		for _, q := range orders {
			got, code := impl.ComposeOrders(p, q)
			if code != impl.ErrNone || len(got) != len(p) {
				t.Fatalf("ComposeOrders(%v, %v) = %v, %d", p, q, got, code)
			}
			for i := range got {
				if got[i] != p[q[i]] {
					t.Fatalf("ComposeOrders(%v, %v) = %v", p, q, got)
				}
			}
		}
	}
}

// TestRanksOfAllOrders is the second part of the guarantee: all ranks of few things, both ways.
func TestRanksOfAllOrders(t *testing.T) {
	for n := range 8 {
		orders := allOrders(n)
		for rank, p := range orders {
			if got, code := impl.RankOrder(p); got != int64(rank) || code != impl.ErrNone {
				t.Fatalf("RankOrder(%v) = %d, %d; want %d", p, got, code, rank)
			}
			if got, code := impl.OrderOfRank(int64(n), int64(rank)); !slices.Equal(got, p) || code != impl.ErrNone {
				t.Fatalf("OrderOfRank(%d, %d) = %v, %d; want %v", n, rank, got, code, p)
			}
		}
		for _, rank := range []int64{-1, int64(len(orders)), int64(len(orders)) + 1} {
			if got, code := impl.OrderOfRank(int64(n), rank); got != nil || code != impl.ErrRange {
				t.Errorf("OrderOfRank(%d, %d) = %v, %d", n, rank, got, code)
			}
		}
	}
}

func TestRanksAtTheLimit(t *testing.T) {
	const all = 479001600 // the number of orders of 12 things
	for _, c := range []struct {
		p    []int64
		rank int64
	}{
		{firstOrder(12), 0},
		{[]int64{0, 1, 2, 3, 4, 5, 6, 7, 8, 9, 11, 10}, 1},
		{[]int64{1, 0, 2, 3, 4, 5, 6, 7, 8, 9, 10, 11}, all / 12},
		{[]int64{6, 0, 1, 2, 3, 4, 5, 7, 8, 9, 10, 11}, all / 2},
		{[]int64{5, 11, 10, 9, 8, 7, 6, 4, 3, 2, 1, 0}, all/2 - 1},
		{[]int64{11, 10, 9, 8, 7, 6, 5, 4, 3, 2, 0, 1}, all - 2},
		{lastOrder(12), all - 1},
	} {
		if got, code := impl.RankOrder(c.p); got != c.rank || code != impl.ErrNone {
			t.Errorf("RankOrder(%v) = %d, %d; want %d", c.p, got, code, c.rank)
		}
		if got, code := impl.OrderOfRank(12, c.rank); !slices.Equal(got, c.p) || code != impl.ErrNone {
			t.Errorf("OrderOfRank(12, %d) = %v, %d; want %v", c.rank, got, code, c.p)
		}
	}
	for rank := int64(0); rank < all; rank += 1234577 {
		p, code := impl.OrderOfRank(12, rank)
		if code != impl.ErrNone || len(p) != 12 || !impl.IsOrder(p) {
			t.Fatalf("OrderOfRank(12, %d) = %v, %d", rank, p, code)
		}
		if got, code := impl.RankOrder(p); got != rank || code != impl.ErrNone {
			t.Fatalf("RankOrder(%v) = %d, %d; want %d", p, got, code, rank)
		}
	}
}

func TestRankOrderErrors(t *testing.T) {
	for name, p := range notOrders() {
		if rank, code := impl.RankOrder(p); rank != 0 || code != impl.ErrInvalid {
			t.Errorf("%s: RankOrder = %d, %d", name, rank, code)
		}
	}
	for n := impl.MaxRanked + 1; n <= impl.MaxOrder; n++ {
		if rank, code := impl.RankOrder(lastOrder(n)); rank != 0 || code != impl.ErrLimit {
			t.Errorf("RankOrder of %d things = %d, %d", n, rank, code)
		}
	}
	// ErrInvalid comes before ErrLimit.
	if rank, code := impl.RankOrder(make([]int64, impl.MaxRanked+1)); rank != 0 || code != impl.ErrInvalid {
		t.Errorf("RankOrder of thirteen zeros = %d, %d", rank, code)
	}
}

func TestOrderOfRankErrors(t *testing.T) {
	for _, c := range [][2]int64{
		{-1, 0}, {-1, -1}, {math.MinInt64, 0}, {impl.MaxRanked + 1, 0}, {impl.MaxRanked + 1, -1}, {impl.MaxOrder, 0}, {math.MaxInt64, 0},
		{0, 1}, {0, -1}, {1, 1}, {2, 2}, {3, 6}, {3, math.MaxInt64}, {3, math.MinInt64},
		{impl.MaxRanked, -1}, {impl.MaxRanked, 479001600}, {impl.MaxRanked, math.MaxInt64},
	} {
		if p, code := impl.OrderOfRank(c[0], c[1]); p != nil || code != impl.ErrRange {
			t.Errorf("OrderOfRank(%d, %d) = %v, %d", c[0], c[1], p, code)
		}
	}
}

func TestEvenShares(t *testing.T) {
	for _, c := range []struct {
		n, k int64
		want []int64
	}{
		{7, 3, []int64{3, 2, 2}},
		{8, 3, []int64{3, 3, 2}},
		{9, 3, []int64{3, 3, 3}},
		{0, 1, []int64{0}},
		{0, 4, []int64{0, 0, 0, 0}},
		{2, 4, []int64{1, 1, 0, 0}},
		{impl.MaxNumber, 1, []int64{impl.MaxNumber}},
		{impl.MaxNumber, 3, []int64{333333334, 333333333, 333333333}},
		{impl.MaxNumber, impl.MaxOrder, slices.Repeat([]int64{15625000}, impl.MaxOrder)},
	} {
		if got, code := impl.EvenShares(c.n, c.k); !slices.Equal(got, c.want) || code != impl.ErrNone {
			t.Errorf("EvenShares(%d, %d) = %v, %d; want %v", c.n, c.k, got, code, c.want)
		}
	}
}

// TestEvenSharesAreEven checks what defines even shares.
func TestEvenSharesAreEven(t *testing.T) {
	numbers := []int64{impl.MaxNumber - 1, impl.MaxNumber}
	for n := range int64(200) {
		numbers = append(numbers, n)
	}
	for _, n := range numbers {
		for k := int64(1); k <= impl.MaxOrder; k++ {
			shares, code := impl.EvenShares(n, k)
			if code != impl.ErrNone || int64(len(shares)) != k {
				t.Fatalf("EvenShares(%d, %d) = %v, %d", n, k, shares, code)
			}
			var sum int64
			for i, share := range shares {
				sum += share
				if i > 0 && share > shares[i-1] {
					t.Fatalf("EvenShares(%d, %d) = %v: a share is greater than the one before it", n, k, shares)
				}
			}
			if sum != n || shares[0]-shares[k-1] > 1 {
				t.Fatalf("EvenShares(%d, %d) = %v", n, k, shares)
			}
		}
	}
}

func TestEvenSharesErrors(t *testing.T) {
	for _, c := range [][2]int64{
		{-1, 1}, {math.MinInt64, 1}, {impl.MaxNumber + 1, 1}, {math.MaxInt64, 3},
		{7, 0}, {7, -1}, {7, math.MinInt64}, {7, impl.MaxOrder + 1}, {7, math.MaxInt64}, {0, 0}, {-1, 0},
	} {
		if shares, code := impl.EvenShares(c[0], c[1]); shares != nil || code != impl.ErrRange {
			t.Errorf("EvenShares(%d, %d) = %v, %d", c[0], c[1], shares, code)
		}
	}
}

func TestLengthTexts(t *testing.T) {
	for _, c := range []struct {
		n int64
		s string
	}{
		{0, "0.0"},
		{1, "0.1"},
		{9, "0.9"},
		{10, "1.0"},
		{11, "1.1"},
		{99, "9.9"},
		{100, "10.0"},
		{1000, "100.0"},
		{1234, "123.4"},
		{impl.MaxNumber - 1, "99999999.9"},
		{impl.MaxNumber, "100000000.0"},
	} {
		if got := impl.LengthText(c.n); got != c.s {
			t.Errorf("LengthText(%d) = %q; want %q", c.n, got, c.s)
		}
		if got, ok := impl.ReadLength(c.s); got != c.n || !ok {
			t.Errorf("ReadLength(%q) = %d, %v; want %d", c.s, got, ok, c.n)
		}
	}
	for _, n := range []int64{-1, -10, math.MinInt64, impl.MaxNumber + 1, math.MaxInt64} {
		if got := impl.LengthText(n); got != "" {
			t.Errorf("LengthText(%d) = %q", n, got)
		}
	}
}

// TestLengthTextsLeadBack is the last part of the guarantee.
func TestLengthTextsLeadBack(t *testing.T) {
	seen := map[string]int64{}
	check := func(n int64) {
		s := impl.LengthText(n)
		if other, ok := seen[s]; ok && other != n {
			t.Fatalf("%d and %d have the same text %q", n, other, s)
		}
		seen[s] = n
		if got, ok := impl.ReadLength(s); got != n || !ok {
			t.Fatalf("ReadLength(LengthText(%d)) = %d, %v", n, got, ok)
		}
	}
	for n := range int64(5000) {
		check(n)
		check(impl.MaxNumber - n)
	}
	for n := int64(0); n <= impl.MaxNumber; n += 99991 {
		check(n)
	}
}

func TestReadLengthOfNoText(t *testing.T) {
	for _, s := range []string{
		"", ".", "5", "0", "5.", ".5", "..", "5..0", "5.12", "5.00", "5.1.1", ".5.1",
		"00.0", "05.1", "00", "005.1", "-5.1", "-0.0", "+5.1", "-.5", "5.-1", "5.+1", "5.1-",
		" 5.1", "5.1 ", "5 .1", "5. 1", "5.1\n", "\t5.1", "5,1", "5_0.1", "0x5.1", "1e3.0", "5.a", "a.5", "five",
		"100000000.1", "100000001.0", "999999999.9", "1000000000.0",
		"9223372036854775807.0", "922337203685477580.7", "922337203685477580.8", "18446744073709551616.0", "1844674407370955161.6",
		"\u0665.1", "5.\u0661", "5.1\x00", "\xff.1", "5\u2024" + "1",
		strings.Repeat("0", 100) + "5.1", strings.Repeat("9", 10000) + ".9",
	} {
		if n, ok := impl.ReadLength(s); n != 0 || ok {
			t.Errorf("ReadLength(%q) = %d, %v", s, n, ok)
		}
	}
}

// TestReadLengthOfShortTexts holds ReadLength against the definition for all texts of up to four
// characters that matter.
func TestReadLengthOfShortTexts(t *testing.T) {
	lengths := map[string]int64{}
	for n := range int64(1000) {
		lengths[impl.LengthText(n)] = n
	}
	var check func(s string)
	check = func(s string) {
		want, wanted := lengths[s]
		if n, ok := impl.ReadLength(s); n != want || ok != wanted {
			t.Errorf("ReadLength(%q) = %d, %v", s, n, ok)
		}
		if len(s) < 4 {
			for _, c := range "019.-+_ " {
				check(s + string(c))
			}
		}
	}
	check("")
}

// TestOrdersAreNotShared checks that no function changes an argument or the memory behind it, and
// that results are new memory.
func TestOrdersAreNotShared(t *testing.T) {
	backing := []int64{2, 0, 1, 7, 7, 7}
	p := backing[:3]
	other := []int64{0, 2, 1, 8, 8, 8}
	q := other[:3]
	inverse, _ := impl.InverseOrder(p)
	composed, _ := impl.ComposeOrders(p, q)
	impl.IsOrder(p)
	impl.RankOrder(p)
	for _, result := range [][]int64{inverse, composed} {
		for i := range result {
			result[i] = -9
		}
		_ = append(result, -9, -9, -9)
	}
	if !slices.Equal(backing, []int64{2, 0, 1, 7, 7, 7}) || !slices.Equal(other, []int64{0, 2, 1, 8, 8, 8}) {
		t.Errorf("the arguments have become %v and %v", backing, other)
	}
	inverse, _ = impl.InverseOrder(p)
	composed, _ = impl.ComposeOrders(p, p)
	if !slices.Equal(inverse, []int64{1, 2, 0}) || !slices.Equal(composed, []int64{1, 2, 0}) {
		t.Errorf("a later call returned %v and %v", inverse, composed)
	}
}

// TestErrorCodes checks the codes that all chapters share.
func TestErrorCodes(t *testing.T) {
	codes := []int64{impl.ErrNone, impl.ErrInvalid, impl.ErrRange, impl.ErrLimit, impl.ErrNotFound, impl.ErrState, impl.ErrSyntax}
	if !slices.Equal(codes, firstOrder(7)) {
		t.Errorf("the error codes are %v", codes)
	}
	if impl.MaxNumber != 1000000000 || impl.MaxOrder != 64 || impl.MaxRanked != 12 {
		t.Errorf("the limits are %d, %d and %d", impl.MaxNumber, impl.MaxOrder, impl.MaxRanked)
	}
}
