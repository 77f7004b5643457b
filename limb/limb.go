// Package limb is layer 1: see shared/doc/01-limb.md.
//
// A row of limbs is a number, its lowest limb first. Rows that come in may end
// in limbs of 0; rows that are told are trim, and are new memory, so that no
// caller can change what another one holds.
package limb

import "math/bits"

const (
	limbBits = 64
	mostUp   = 1000    // Shift goes no further up than this
	mostDown = -100000 // further down than this Shift leaves nothing
)

// Add tells the sum.
func Add(a, b []uint64) []uint64 {
	var carry uint64
	return build(max(len(a), len(b))+1, func(i int) uint64 {
		var s uint64
		s, carry = bits.Add64(at(a, i), at(b, i), carry)
		return s
	})
}

// Sub tells the difference, and whether there is one: a row can't go below 0.
func Sub(a, b []uint64) ([]uint64, bool) {
	var borrow uint64
	d := build(max(len(a), len(b)), func(i int) uint64 {
		var s uint64
		s, borrow = bits.Sub64(at(a, i), at(b, i), borrow)
		return s
	})
	if borrow != 0 {
		return nil, false
	}
	return d, true
}

// Mul tells the product.
func Mul(a, b []uint64) []uint64 {
	a, b = a[:trimLen(a)], b[:trimLen(b)]
	rows := make([][]uint64, len(b))
	for i, x := range b {
		rows[i] = scale(a, x, i)
	}
	return sum(rows...)
}

// Cmp tells -1, 0 or 1, as a is below b, the same, or above.
func Cmp(a, b []uint64) int {
	for i := max(len(a), len(b)) - 1; i >= 0; i-- {
		x, y := at(a, i), at(b, i)
		if x < y {
			return -1
		}
		if x > y {
			return 1
		}
	}
	return 0
}

// Trim tells the one row of the same number that does not end in a limb of 0.
func Trim(a []uint64) []uint64 {
	return build(trimLen(a), func(i int) uint64 { return a[i] })
}

// Shift tells a times 2^n, rounded down where n is below 0.
func Shift(a []uint64, n int) []uint64 {
	if n < mostDown { // asked ahead of -n, which the least int does not have
		return nil
	}
	a = a[:trimLen(a)]
	if n < 0 {
		return shiftDown(a, -n)
	}
	return shiftUp(a, min(n, mostUp))
}

// Bits tells how many bits the number has: the least k so that it is below 2^k.
func Bits(a []uint64) int {
	n := trimLen(a)
	if n == 0 {
		return 0
	}
	return (n-1)*limbBits + bits.Len64(a[n-1])
}

// at lets rows of unlike lengths, and shifted ones, be read side by side: on
// either side of its limbs a row is 0.
func at(a []uint64, i int) uint64 {
	if i < 0 || i >= len(a) {
		return 0
	}
	return a[i]
}

func trimLen(a []uint64) int {
	n := len(a)
	for n > 0 && a[n-1] == 0 {
		n--
	}
	return n
}

// build asks for the limbs from the lowest one on, each once, so that next may
// keep a carry from one to the next.
func build(n int, next func(i int) uint64) []uint64 {
	row := make([]uint64, n)
	for i := range row {
		row[i] = next(i)
	}
	n = trimLen(row)
	if n == 0 {
		return nil
	}
	return row[:n]
}

// scale tells a times x, with as many limbs of 0 below it as places says.
func scale(a []uint64, x uint64, places int) []uint64 {
	var carry uint64
	return build(places+len(a)+1, func(i int) uint64 {
		high, low := bits.Mul64(at(a, i-places), x)
		s, over := bits.Add64(low, carry, 0)
		carry = high + over // high is at most 2^64 - 2, so this can't wrap round
		return s
	})
}

// sum adds all the rows in one pass. What k rows carry on is below k: one limb
// is enough for it.
func sum(rows ...[]uint64) []uint64 {
	longest := 0
	for _, r := range rows {
		longest = max(longest, len(r))
	}
	var carry uint64
	return build(longest+1, func(i int) uint64 {
		total, next := carry, uint64(0)
		for _, r := range rows {
			var over uint64
			total, over = bits.Add64(total, at(r, i), 0)
			next += over
		}
		carry = next
		return total
	})
}

// shiftUp and shiftDown lean on shifts by a whole limb being 0, which Go
// promises: where n is a multiple of limbBits the neighbour adds nothing.
func shiftUp(a []uint64, n int) []uint64 {
	limbs, rest := n/limbBits, n%limbBits
	return build(len(a)+limbs+1, func(i int) uint64 {
		return at(a, i-limbs)<<rest | at(a, i-limbs-1)>>(limbBits-rest)
	})
}

func shiftDown(a []uint64, n int) []uint64 {
	limbs, rest := n/limbBits, n%limbBits
	return build(max(len(a)-limbs, 0), func(i int) uint64 {
		return at(a, i+limbs)>>rest | at(a, i+limbs+1)<<(limbBits-rest)
	})
}
