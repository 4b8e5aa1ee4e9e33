package impl

import (
	"slices"
	"strconv"
	"strings"
)

const (
	ErrNone = iota
	ErrInvalid
	ErrRange
	ErrLimit
	ErrNotFound
	ErrState
	ErrSyntax
)

const (
	MaxNumber = 1000000000
	MaxOrder  = 64
	MaxRanked = 12
)

// orderList is a list of numbers that says which thing stands at which place. Its methods other
// than valid rely on it being an order: an exported function asks valid first.
type orderList []int64

// valid reports whether the list is an order. The length is checked first, so that every number
// that is less than it has a place in seen.
func (p orderList) valid() bool {
	if len(p) > MaxOrder {
		return false
	}
	var seen [MaxOrder]bool
	for _, thing := range p {
		if thing < 0 || thing >= int64(len(p)) || seen[thing] {
			return false
		}
		seen[thing] = true
	}
	return true
}

// inverse returns the order that tells where each thing stands.
func (p orderList) inverse() orderList {
	result := make(orderList, len(p))
	for place, thing := range p {
		result[thing] = int64(place)
	}
	return result
}

// compose returns the order with p[q[i]] at each place i, for a q with as many elements.
func (p orderList) compose(q orderList) orderList {
	result := make(orderList, len(q))
	for place, through := range q {
		result[place] = p[through]
	}
	return result
}

// rank returns the number of lexicographically smaller orders. The smaller things behind a place
// are a digit of it, in the number system whose bases are the numbers of places that are left.
func (p orderList) rank() int64 {
	var result int64
	for place, thing := range p {
		result *= int64(len(p) - place)
		for _, later := range p[place+1:] {
			if later < thing {
				result++
			}
		}
	}
	return result
}

// IsOrder reports whether p is an order.
func IsOrder(p []int64) bool {
	return orderList(p).valid()
}

// InverseOrder returns the order that has at the place of each thing the place where it stands
// in p, and ErrNone. It returns nil and ErrInvalid if p is not an order.
func InverseOrder(p []int64) ([]int64, int64) {
	if !IsOrder(p) {
		return nil, ErrInvalid
	}
	return orderList(p).inverse(), ErrNone
}

// ComposeOrders returns the order with p[q[i]] at each place i, and ErrNone. It returns nil and,
// in this order, ErrInvalid if p or q is not an order, ErrState if they have different numbers
// of elements.
func ComposeOrders(p []int64, q []int64) ([]int64, int64) {
	if !IsOrder(p) || !IsOrder(q) {
		return nil, ErrInvalid
	}
	if len(p) != len(q) {
		return nil, ErrState
	}
	return orderList(p).compose(q), ErrNone
}

// RankOrder returns the rank of an order, and ErrNone. It returns 0 and, in this order,
// ErrInvalid if p is not an order, ErrLimit if it has more than MaxRanked elements.
func RankOrder(p []int64) (int64, int64) {
	if !IsOrder(p) {
		return 0, ErrInvalid
	}
	if len(p) > MaxRanked {
		return 0, ErrLimit
	}
	return orderList(p).rank(), ErrNone
}

// OrderOfRank returns the order of n things with a rank, and ErrNone. It returns nil and
// ErrRange if n is not in 0..MaxRanked, or rank is not that of an order of n things.
func OrderOfRank(n int64, rank int64) ([]int64, int64) {
	if n < 0 || n > MaxRanked || rank < 0 || rank >= countOrders(n) {
		return nil, ErrRange
	}
	left := firstNumbers(n)
	result := make([]int64, 0, n)
	for len(left) > 0 {
		// As many orders begin with each of the things that are left.
		alike := countOrders(int64(len(left)) - 1)
		next := int(rank / alike)
		rank %= alike
		result = append(result, left[next])
		left = slices.Delete(left, next, next+1)
	}
	return result, ErrNone
}

// countOrders returns the number of orders of n things, for n in 0..MaxRanked.
func countOrders(n int64) int64 {
	result := int64(1)
	for k := int64(2); k <= n; k++ {
		result *= k
	}
	return result
}

// firstNumbers returns 0 to n - 1, the order that leaves everything in its place.
func firstNumbers(n int64) []int64 {
	result := make([]int64, n)
	for i := range result {
		result[i] = int64(i)
	}
	return result
}

// EvenShares returns the even shares, and ErrNone. It returns nil and ErrRange if n is not in
// 0..MaxNumber, or k not in 1..MaxOrder.
func EvenShares(n int64, k int64) ([]int64, int64) {
	if n < 0 || n > MaxNumber || k < 1 || k > MaxOrder {
		return nil, ErrRange
	}
	result := make([]int64, k)
	for i := range result {
		result[i] = n / k
		if int64(i) < n%k {
			result[i]++
		}
	}
	return result, ErrNone
}

// isLength reports whether n is a length in tenths of a millimetre.
func isLength(n int64) bool {
	return n >= 0 && n <= MaxNumber
}

// LengthText returns the text of a length, or "" if n is not one.
func LengthText(n int64) string {
	if !isLength(n) {
		return ""
	}
	return strconv.FormatInt(n/10, 10) + "." + strconv.FormatInt(n%10, 10)
}

// ReadLength returns the length with the text s, and true, or 0 and false if there is none. A
// length has one text only, so what is read is compared with it: this rejects all other ways to
// write a number, such as signs, leading zeros and a period at another place.
func ReadLength(s string) (int64, bool) {
	whole, tenths, _ := strings.Cut(s, ".")
	n, err := strconv.ParseInt(whole+tenths, 10, 64)
	if err != nil || LengthText(n) != s {
		return 0, false
	}
	return n, true
}
