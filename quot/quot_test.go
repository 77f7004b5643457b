package quot

import (
	"math"
	"math/big"
	"slices"
	"testing"

	"syzygy/api"
	"syzygy/limb"
	"syzygy/nat"
)

const top = math.MaxUint64

// value is the number that a row is, worked out by other means than the layers' own.
func value(a []uint64) *big.Int {
	v := new(big.Int)
	for i, x := range a {
		limb := new(big.Int).SetUint64(x)
		v.Add(v, limb.Lsh(limb, uint(64*i)))
	}
	return v
}

func full(n int) api.Nat { return slices.Repeat(api.Nat{top}, n) }

// power2 is the row of 2^k.
func power2(k int) api.Nat {
	row := make(api.Nat, k/64+1)
	row[k/64] = 1 << (k % 64)
	return row
}

// scattered is a row of n limbs that hangs on its seed alone; its last limb is not 0.
func scattered(n int, seed uint64) api.Nat {
	row := make(api.Nat, n)
	for i := range row {
		seed = seed*6364136223846793005 + 1442695040888963407
		row[i] = seed ^ seed>>29 | 1
	}
	return row
}

// naturals are rows that may be: edges of limbs, of MaxLimbs, and some without a pattern.
func naturals() []api.Nat {
	rows := []api.Nat{
		nil, {}, {1}, {2}, {3}, {7}, {10}, {12}, {18}, {1 << 32}, {1 << 63}, {top - 1}, {top},
		{0, 1}, {1, 1}, {top, 1}, {0, 1 << 63}, {1, 1 << 63}, {top, 1 << 63}, {top, 1<<63 - 1},
		{1, 0, 1}, {0, 0, 1 << 63}, {0, top - 1, 1 << 63}, {0, 0, 0, 1},
		power2(255), power2(256), power2(448), power2(511),
		full(2), full(3), full(4), full(7), full(8),
	}
	for n := 1; n <= api.MaxLimbs; n++ {
		rows = append(rows, scattered(n, uint64(n)), scattered(n, uint64(n+100)))
	}
	return rows
}

// strangers are rows that may not be: not trim, too long, or both.
func strangers() []api.Nat {
	return []api.Nat{
		{0}, {1, 0}, {0, 0}, {top, top, 0}, make(api.Nat, 8), append(full(7), 0),
		power2(512), full(9), append(full(8), 0), make(api.Nat, 9), scattered(20, 3), make(api.Nat, 70),
	}
}

func everyRow() []api.Nat { return append(naturals(), strangers()...) }

func isTrim(rows ...api.Nat) bool {
	return !slices.ContainsFunc(rows, func(a api.Nat) bool { return len(a) > 8 || len(a) > 0 && a[len(a)-1] == 0 })
}

// divided holds Div, and Small where b is one limb, against what they must tell.
func divided(t *testing.T, a, b api.Nat) {
	t.Helper()
	want, left := new(big.Int).QuoRem(value(a), value(b), new(big.Int))
	q, r, err := Div(a, b)
	if err != api.OK || value(q).Cmp(want) != 0 || value(r).Cmp(left) != 0 || !isTrim(q, r) {
		t.Errorf("Div %x %x: %x %x %d, want the limbs of %x and %x", a, b, q, r, err, want, left)
	}
	if len(b) == 1 {
		q, r, err := Small(a, b[0])
		if err != api.OK || value(q).Cmp(want) != 0 || r != left.Uint64() || !isTrim(q) {
			t.Errorf("Small %x %x: %x %x %d, want the limbs of %x and %x", a, b, q, r, err, want, left)
		}
	}
}

func noQuotient(t *testing.T, a, b api.Nat, want api.Errno) {
	t.Helper()
	if q, r, err := Div(a, b); len(q) != 0 || len(r) != 0 || err != want {
		t.Errorf("Div %x %x: %x %x %d, want nothing and %d", a, b, q, r, err, want)
	}
}

func TestDiv(t *testing.T) {
	for _, a := range naturals() {
		for _, b := range naturals() {
			if len(b) == 0 {
				noQuotient(t, a, b, api.ErrZero)
			} else {
				divided(t, a, b)
			}
		}
	}
}

// A row that may not be is told ahead of a divisor of 0, on either side.
func TestDivWrongRows(t *testing.T) {
	for _, a := range strangers() {
		for _, b := range everyRow() {
			noQuotient(t, a, b, api.ErrArg)
			noQuotient(t, b, a, api.ErrArg)
		}
	}
}

func TestSmall(t *testing.T) {
	numbers := []uint64{1, 2, 3, 7, 10, 1 << 32, 1<<63 - 1, 1 << 63, 1<<63 + 1, top - 1, top}
	for _, a := range naturals() {
		for _, n := range numbers {
			divided(t, a, api.Nat{n})
		}
		if q, r, err := Small(a, 0); len(q) != 0 || r != 0 || err != api.ErrZero {
			t.Errorf("Small %x 0: %x %d %d", a, q, r, err)
		}
	}
	for _, a := range strangers() {
		for _, n := range append(numbers, 0) {
			if q, r, err := Small(a, n); len(q) != 0 || r != 0 || err != api.ErrArg {
				t.Errorf("Small %x %d: %x %d %d", a, n, q, r, err)
			}
		}
	}
}

// near tells what lies just around b times q, and around b times one more than q: the rests there are 0, 1 and the greatest.
func near(b, q []uint64) []api.Nat {
	one := []uint64{1}
	product := limb.Mul(b, q)
	above := limb.Add(product, b)
	rows := []api.Nat{product, limb.Add(product, one), above}
	for _, row := range []api.Nat{product, above} {
		if below, ok := limb.Sub(row, one); ok {
			rows = append(rows, below)
		}
	}
	return slices.DeleteFunc(rows, func(a api.Nat) bool { return !nat.May(a) })
}

// edged tells all rows of n limbs that are made of few limbs, those at which guesses go wrong.
func edged(n int, limbs ...uint64) [][]uint64 {
	rows := [][]uint64{nil}
	for range n {
		var longer [][]uint64
		for _, row := range rows {
			for _, x := range limbs {
				longer = append(longer, append(slices.Clone(row), x))
			}
		}
		rows = longer
	}
	return rows
}

// Divisors with edges as their highest limbs, and quotients whose limbs are 0
// or the greatest: there guesses are 1 and 2 too great, and must be mended.
func TestGuessesAreMended(t *testing.T) {
	highest := []uint64{1, 1<<63 - 1, 1 << 63, 1<<63 + 1, top - 1, top}
	var quotients [][]uint64
	for n := range 4 {
		quotients = append(quotients, edged(n, 0, 1, top)...)
	}
	for n := range 4 {
		for _, lower := range edged(n, 0, 1, top) {
			for _, high := range highest {
				b := append(slices.Clone(lower), high)
				for _, q := range quotients {
					for _, a := range near(b, q) {
						divided(t, a, b)
					}
				}
			}
		}
	}
}

// The greatest naturals that may be, by divisors of each length, with a
// quotient that fills all limbs that are left.
func TestDivJustMaxLimbs(t *testing.T) {
	for n := 1; n <= 8; n++ {
		for _, high := range []uint64{1, 2, 1<<63 - 1, 1 << 63, top} {
			for _, low := range []uint64{0, 1, top} {
				b := slices.Repeat(api.Nat{low}, n)
				b[n-1] = high
				for _, a := range []api.Nat{full(8), power2(511), power2(448), scattered(8, high)} {
					divided(t, a, b)
				}
				for m := range 9 - n {
					for _, a := range near(b, full(m)) {
						divided(t, a, b)
					}
				}
			}
		}
	}
}

func TestDivBelowSameAbove(t *testing.T) {
	for _, b := range naturals() {
		if len(b) == 0 {
			continue
		}
		below, _ := nat.Sub(b, api.Nat{1})
		if q, r, err := Div(below, b); len(q) != 0 || !slices.Equal(r, below) || err != api.OK {
			t.Errorf("just below %x: %x %x %d", b, q, r, err)
		}
		if q, r, err := Div(b, b); !slices.Equal(q, api.Nat{1}) || len(r) != 0 || err != api.OK {
			t.Errorf("the same %x: %x %x %d", b, q, r, err)
		}
		if above, err := nat.Add(b, api.Nat{1}); err == api.OK {
			divided(t, above, b)
		}
		if q, r, err := Div(nil, b); len(q) != 0 || len(r) != 0 || err != api.OK {
			t.Errorf("0 by %x: %x %x %d", b, q, r, err)
		}
	}
}

func leastMultiple(a, b *big.Int) *big.Int {
	if a.Sign() == 0 || b.Sign() == 0 {
		return new(big.Int)
	}
	l := new(big.Int).Mul(a, b)
	return l.Quo(l, new(big.Int).GCD(nil, nil, a, b))
}

// measured holds Gcd and Lcm against what they must tell.
func measured(t *testing.T, a, b api.Nat) {
	t.Helper()
	greatest := new(big.Int).GCD(nil, nil, value(a), value(b))
	g, err := Gcd(a, b)
	if err != api.OK || value(g).Cmp(greatest) != 0 || !isTrim(g) {
		t.Errorf("Gcd %x %x: %x %d, want the limbs of %x", a, b, g, err, greatest)
	}
	least := leastMultiple(value(a), value(b))
	l, err := Lcm(a, b)
	if least.BitLen() > 512 {
		if len(l) != 0 || err != api.ErrBig {
			t.Errorf("Lcm %x %x: %x %d, want nothing and ErrBig", a, b, l, err)
		}
		return
	}
	if err != api.OK || value(l).Cmp(least) != 0 || !isTrim(l) {
		t.Errorf("Lcm %x %x: %x %d, want the limbs of %x", a, b, l, err, least)
	}
}

func TestGcdLcm(t *testing.T) {
	for _, a := range naturals() {
		for _, b := range naturals() {
			measured(t, a, b)
		}
	}
	for a := range uint64(40) {
		for b := range uint64(40) {
			measured(t, nat.Of(a), nat.Of(b))
		}
	}
}

// Both are multiples of a row of any length, and have more in common by chance alone.
func TestGcdOfMultiples(t *testing.T) {
	for n := 1; n <= 6; n++ {
		common := scattered(n, uint64(n))
		for i := range uint64(20) {
			a := limb.Mul(common, scattered(1+int(i)%2, 2*i))
			b := limb.Mul(common, scattered(1+int(i)%3/2, 2*i+1))
			measured(t, a, b)
			measured(t, b, a)
		}
	}
}

// The most steps that there are: neighbours in the row in which each number is
// the sum of the two ahead of it.
func TestGcdOfManySteps(t *testing.T) {
	a, b := api.Nat{1}, api.Nat{1}
	for {
		measured(t, a, b)
		sum, err := nat.Add(a, b)
		if err != api.OK {
			break
		}
		a, b = b, sum
	}
	if len(b) != 8 {
		t.Error("ended too early", b)
	}
}

func TestGcdLcmEdges(t *testing.T) {
	for i, x := range []struct {
		a, b, g, l api.Nat
		err        api.Errno
	}{
		{nil, nil, nil, nil, api.OK},
		{nil, full(8), full(8), nil, api.OK},
		{full(8), nil, full(8), nil, api.OK},
		{nil, api.Nat{1}, api.Nat{1}, nil, api.OK},
		{full(8), full(8), full(8), full(8), api.OK},
		{full(8), api.Nat{1}, api.Nat{1}, full(8), api.OK},
		{full(8), full(4), full(4), full(8), api.OK},
		{full(8), api.Nat{2}, api.Nat{1}, nil, api.ErrBig},
		{power2(255), scattered(4, 1), api.Nat{1}, limb.Shift(scattered(4, 1), 255), api.OK},
		{power2(511), power2(510), power2(510), power2(511), api.OK},
		{power2(511), api.Nat{3}, api.Nat{1}, nil, api.ErrBig},
		{power2(510), api.Nat{3}, api.Nat{1}, limb.Shift([]uint64{3}, 510), api.OK},
		{power2(510), api.Nat{5}, api.Nat{1}, nil, api.ErrBig},
	} {
		if g, err := Gcd(x.a, x.b); !slices.Equal(g, x.g) || err != api.OK {
			t.Error(i, g, err)
		}
		if l, err := Lcm(x.a, x.b); !slices.Equal(l, x.l) || err != x.err {
			t.Error(i, l, err)
		}
	}
}

// A row that may not be is told ahead of 0, and of what is too great, on either side.
func TestGcdLcmWrongRows(t *testing.T) {
	calls := map[string]func(a, b api.Nat) (api.Nat, api.Errno){"Gcd": Gcd, "Lcm": Lcm}
	for what, call := range calls {
		for _, a := range strangers() {
			for _, b := range everyRow() {
				for _, both := range [][2]api.Nat{{a, b}, {b, a}} {
					if got, err := call(both[0], both[1]); len(got) != 0 || err != api.ErrArg {
						t.Errorf("%s %x: %x %d", what, both, got, err)
					}
				}
			}
		}
	}
}

func TestProductOfGcdAndLcm(t *testing.T) {
	for _, a := range naturals() {
		for _, b := range naturals() {
			g, _ := Gcd(a, b)
			l, err := Lcm(a, b)
			if err == api.OK && !slices.Equal(limb.Mul(g, l), limb.Mul(a, b)) {
				t.Errorf("%x %x: %x %x", a, b, g, l)
			}
		}
	}
}

// everyCall makes each call of the chapter with both rows, and tells its naturals.
func everyCall(a, b api.Nat) []api.Nat {
	q, r, _ := Div(a, b)
	g, _ := Gcd(a, b)
	l, _ := Lcm(a, b)
	told := []api.Nat{q, r, g, l}
	for _, n := range []uint64{0, 1, 3, top} {
		q, _, _ := Small(a, n)
		told = append(told, q)
	}
	return told
}

// guarded is a copy of a row with limbs behind its length that nobody may write to.
func guarded(a api.Nat) (row, whole api.Nat) {
	whole = slices.Concat(a, api.Nat{11, 12, 13, 14})
	return whole[:len(a)], whole
}

func TestNothingHandedInIsChanged(t *testing.T) {
	for _, x := range everyRow() {
		for _, y := range everyRow() {
			a, wholeA := guarded(x)
			b, wholeB := guarded(y)
			keptA, keptB := slices.Clone(wholeA), slices.Clone(wholeB)
			everyCall(a, b)
			everyCall(a, a)
			if !slices.Equal(wholeA, keptA) || !slices.Equal(wholeB, keptB) {
				t.Fatal("changed", x, y)
			}
		}
	}
}

// Each natural that is told is memory of its own: writing over it, and behind
// it, reaches no argument, and nothing else that was told.
func TestToldNaturalsAreNew(t *testing.T) {
	for _, x := range everyRow() {
		for _, y := range []api.Nat{nil, {1}, {2, 1}, full(8)} {
			a, wholeA := guarded(x)
			b, wholeB := guarded(y)
			kept := slices.Concat(wholeA, wholeB)
			told := slices.Concat(everyCall(a, b), everyCall(b, a), everyCall(a, a))
			for i, row := range told {
				row = row[:cap(row)]
				for j := range row {
					row[j] = uint64(i)
				}
			}
			for i, row := range told {
				if slices.ContainsFunc(row, func(l uint64) bool { return l != uint64(i) }) {
					t.Fatal("two that were told share memory", x, y)
				}
			}
			if !slices.Equal(slices.Concat(wholeA, wholeB), kept) {
				t.Fatal("shared with what was handed in", x, y)
			}
		}
	}
}

// The same arguments are answered the same, whatever was asked in between.
func TestOneAnswer(t *testing.T) {
	for _, a := range everyRow() {
		first := everyCall(a, api.Nat{3, 1})
		everyCall(full(8), a)
		for i, row := range everyCall(a, api.Nat{3, 1}) {
			if !slices.Equal(row, first[i]) {
				t.Error(a, i)
			}
		}
	}
}
