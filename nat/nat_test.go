package nat

import (
	"math"
	"math/big"
	"slices"
	"testing"

	"syzygy/api"
	"syzygy/limb"
)

const top = math.MaxUint64

// value is the number that a row is, worked out by other means than the layers' own.
func value(a []uint64) *big.Int {
	v := new(big.Int)
	for i, x := range a {
		limb := new(big.Int).SetUint64(x)
		v.Add(v, limb.Lsh(limb, uint(64*i)))
	}
	return v
}

// most is the greatest number that may be.
func most() *big.Int {
	v := big.NewInt(1)
	v.Lsh(v, 64*api.MaxLimbs)
	return v.Sub(v, big.NewInt(1))
}

func full(n int) api.Nat { return slices.Repeat(api.Nat{top}, n) }

// power2 is the row of 2^k.
func power2(k int) api.Nat {
	row := make(api.Nat, k/64+1)
	row[k/64] = 1 << (k % 64)
	return row
}

// scattered is a row of n limbs that hangs on its seed alone; its last limb is not 0.
func scattered(n int, seed uint64) api.Nat {
	row := make(api.Nat, n)
	for i := range row {
		seed = seed*6364136223846793005 + 1442695040888963407
		row[i] = seed ^ seed>>29 | 1
	}
	return row
}

// naturals are rows that may be: edges of limbs, of MaxLimbs, and some without a pattern.
func naturals() []api.Nat {
	rows := []api.Nat{
		nil, {}, {1}, {2}, {3}, {7}, {10}, {1 << 32}, {1 << 63}, {top - 1}, {top},
		{0, 1}, {1, 1}, {top, 1}, {0, 1 << 63}, {1, 0, 1}, {0, 0, 0, 1},
		power2(255), power2(256), power2(257), power2(447), power2(448), power2(510), power2(511),
		full(2), full(3), full(4), full(5), full(7), full(8),
	}
	for n := 1; n <= api.MaxLimbs; n++ {
		rows = append(rows, scattered(n, uint64(n)), scattered(n, uint64(n+100)))
	}
	return rows
}

// strangers are rows that may not be: not trim, too long, or both.
func strangers() []api.Nat {
	return []api.Nat{
		{0}, {1, 0}, {0, 0}, {top, top, 0}, make(api.Nat, 8), append(full(7), 0),
		power2(512), full(9), append(full(8), 0), make(api.Nat, 9), scattered(20, 3), make(api.Nat, 70),
	}
}

func everyRow() []api.Nat { return append(naturals(), strangers()...) }

// expect holds what was told against the number that it must be: ErrMinus below 0, ErrBig above what may be.
func expect(t *testing.T, got api.Nat, err api.Errno, want *big.Int, what string, args ...any) {
	t.Helper()
	if want.Sign() < 0 {
		refused(t, got, err, api.ErrMinus, what, args...)
	} else if want.Cmp(most()) > 0 {
		refused(t, got, err, api.ErrBig, what, args...)
	} else if err != api.OK || value(got).Cmp(want) != 0 || !isShortAndTrim(got) {
		t.Errorf("%s %v: %v %d, want the limbs of %v", what, args, got, err, want)
	}
}

func refused(t *testing.T, got api.Nat, err, want api.Errno, what string, args ...any) {
	t.Helper()
	if err != want || len(got) != 0 {
		t.Errorf("%s %v: %v %d, want nothing and %d", what, args, got, err, want)
	}
}

func isShortAndTrim(a api.Nat) bool {
	return len(a) <= 8 && (len(a) == 0 || a[len(a)-1] != 0)
}

func TestMay(t *testing.T) {
	for _, a := range naturals() {
		if !May(a) {
			t.Error("may be", a)
		}
	}
	for _, a := range strangers() {
		if May(a) {
			t.Error("may not be", a)
		}
	}
}

func TestOf(t *testing.T) {
	for _, n := range []uint64{1, 2, 255, 1 << 32, 1 << 63, top} {
		if got := Of(n); !slices.Equal(got, api.Nat{n}) {
			t.Error(n, got)
		}
	}
	if got := Of(0); len(got) != 0 {
		t.Error("0 has no limb", got)
	}
}

func TestCmp(t *testing.T) {
	for _, a := range everyRow() {
		for _, b := range everyRow() {
			if got, want := Cmp(a, b), value(a).Cmp(value(b)); got != want || got != limb.Cmp(a, b) {
				t.Errorf("Cmp %v %v: %d, want %d", a, b, got, want)
			}
		}
	}
}

func TestAddSubMul(t *testing.T) {
	for _, a := range naturals() {
		for _, b := range naturals() {
			va, vb := value(a), value(b)
			s, err := Add(a, b)
			expect(t, s, err, new(big.Int).Add(va, vb), "Add", a, b)
			d, err := Sub(a, b)
			expect(t, d, err, new(big.Int).Sub(va, vb), "Sub", a, b)
			p, err := Mul(a, b)
			expect(t, p, err, new(big.Int).Mul(va, vb), "Mul", a, b)
		}
	}
}

// A row that may not be is told ahead of all else, on either side: also where
// the difference would be below 0, or what comes of it too great, or small.
func TestWrongRows(t *testing.T) {
	operations := map[string]func(a, b api.Nat) (api.Nat, api.Errno){"Add": Add, "Sub": Sub, "Mul": Mul}
	for what, operation := range operations {
		for _, a := range strangers() {
			for _, b := range everyRow() {
				got, err := operation(a, b)
				refused(t, got, err, api.ErrArg, what, a, b)
				got, err = operation(b, a)
				refused(t, got, err, api.ErrArg, what, b, a)
			}
		}
	}
}

func TestJustMaxLimbs(t *testing.T) {
	below := full(8)
	below[0]--
	for i, x := range []struct {
		operation func(a, b api.Nat) (api.Nat, api.Errno)
		a, b      api.Nat
		want      api.Nat
		err       api.Errno
	}{
		{Add, below, api.Nat{1}, full(8), api.OK},
		{Add, full(8), nil, full(8), api.OK},
		{Add, full(8), api.Nat{1}, nil, api.ErrBig},
		{Add, api.Nat{1}, full(8), nil, api.ErrBig},
		{Add, power2(511), power2(511), nil, api.ErrBig},
		{Mul, power2(255), power2(256), power2(511), api.OK},
		{Mul, power2(256), power2(256), nil, api.ErrBig},
		{Mul, full(8), api.Nat{1}, full(8), api.OK},
		{Mul, full(8), nil, nil, api.OK},
		{Mul, full(8), api.Nat{2}, nil, api.ErrBig},
		{Mul, full(8), full(8), nil, api.ErrBig},
		{Sub, full(8), full(8), nil, api.OK},
		{Sub, full(8), nil, full(8), api.OK},
		{Sub, below, full(8), nil, api.ErrMinus},
		{Sub, nil, full(8), nil, api.ErrMinus},
		{Sub, nil, api.Nat{1}, nil, api.ErrMinus},
	} {
		if got, err := x.operation(x.a, x.b); !slices.Equal(got, x.want) || err != x.err {
			t.Error(i, got, err)
		}
	}
}

func TestPower(t *testing.T) {
	for _, a := range naturals() {
		for n := range 530 {
			want := value(a)
			if n > 1 && want.BitLen() > 1 && (want.BitLen()-1)*n > 600 {
				want = new(big.Int).Lsh(big.NewInt(1), 600) // too great, however great
			} else {
				want.Exp(want, big.NewInt(int64(n)), nil)
			}
			got, err := Power(a, n)
			expect(t, got, err, want, "Power", a, n)
		}
	}
}

func TestPowerEdges(t *testing.T) {
	for i, x := range []struct {
		a    api.Nat
		n    int
		want api.Nat
		err  api.Errno
	}{
		{nil, 0, api.Nat{1}, api.OK},
		{nil, 1, nil, api.OK},
		{nil, 2, nil, api.OK},
		{nil, math.MaxInt, nil, api.OK},
		{api.Nat{1}, 0, api.Nat{1}, api.OK},
		{api.Nat{1}, math.MaxInt, api.Nat{1}, api.OK},
		{api.Nat{2}, 511, api.Nat{0, 0, 0, 0, 0, 0, 0, 1 << 63}, api.OK},
		{api.Nat{2}, 512, nil, api.ErrBig},
		{api.Nat{2}, math.MaxInt, nil, api.ErrBig},
		{api.Nat{3}, 1 << 40, nil, api.ErrBig},
		{full(8), 0, api.Nat{1}, api.OK},
		{full(8), 1, full(8), api.OK},
		{full(8), 2, nil, api.ErrBig},
		{full(8), math.MaxInt, nil, api.ErrBig},
		{full(4), 2, api.Nat{1, 0, 0, 0, top - 1, top, top, top}, api.OK},
		{api.Nat{0, 1}, 7, power2(448), api.OK},
		{api.Nat{0, 1}, 8, nil, api.ErrBig},
	} {
		if got, err := Power(x.a, x.n); !slices.Equal(got, x.want) || err != x.err {
			t.Error(i, got, err)
		}
	}
}

func TestPowerWrong(t *testing.T) {
	for _, a := range naturals() {
		for _, n := range []int{-1, -2, -512, math.MinInt} {
			got, err := Power(a, n)
			refused(t, got, err, api.ErrArg, "Power", a, n)
		}
	}
	for _, a := range strangers() {
		for _, n := range []int{math.MinInt, -1, 0, 1, 2, 600, math.MaxInt} {
			got, err := Power(a, n)
			refused(t, got, err, api.ErrArg, "Power", a, n)
		}
	}
}

// everyCall makes each call of the chapter with both rows, and tells its naturals.
func everyCall(a, b api.Nat) []api.Nat {
	May(a)
	Cmp(a, b)
	s, _ := Add(a, b)
	d, _ := Sub(a, b)
	p, _ := Mul(a, b)
	told := []api.Nat{s, d, p}
	for _, n := range []int{-1, 0, 1, 2, 3, 511, 512, math.MaxInt} {
		q, _ := Power(a, n)
		told = append(told, q)
	}
	for _, n := range slices.Concat(a, b) {
		told = append(told, Of(n))
	}
	return told
}

func TestWhatIsToldMayBe(t *testing.T) {
	for _, a := range everyRow() {
		for _, b := range everyRow() {
			for i, c := range everyCall(a, b) {
				if !May(c) || !isShortAndTrim(c) {
					t.Error(i, a, b, c)
				}
			}
		}
	}
}

// guarded is a copy of a row with limbs behind its length that nobody may write to.
func guarded(a api.Nat) (row, whole api.Nat) {
	whole = slices.Concat(a, api.Nat{11, 12, 13, 14})
	return whole[:len(a)], whole
}

func TestNothingHandedInIsChanged(t *testing.T) {
	for _, x := range everyRow() {
		for _, y := range everyRow() {
			a, wholeA := guarded(x)
			b, wholeB := guarded(y)
			keptA, keptB := slices.Clone(wholeA), slices.Clone(wholeB)
			everyCall(a, b)
			everyCall(a, a)
			if !slices.Equal(wholeA, keptA) || !slices.Equal(wholeB, keptB) {
				t.Fatal("changed", x, y)
			}
		}
	}
}

// Each natural that is told is memory of its own: writing over it, and behind it, reaches no argument.
func TestToldNaturalsAreNew(t *testing.T) {
	for _, x := range everyRow() {
		a, whole := guarded(x)
		b := api.Nat{1}
		kept := slices.Clone(whole)
		for _, row := range slices.Concat(everyCall(a, nil), everyCall(a, b), everyCall(b, a)) {
			row = row[:cap(row)]
			for i := range row {
				row[i] = 77
			}
		}
		if !slices.Equal(whole, kept) || b[0] != 1 {
			t.Fatal("shared", x)
		}
	}
}

// The same arguments are answered the same, whatever was asked in between.
func TestOneAnswer(t *testing.T) {
	for _, a := range everyRow() {
		first := everyCall(a, api.Nat{3, 1})
		everyCall(full(8), a)
		for i, row := range everyCall(a, api.Nat{3, 1}) {
			if !slices.Equal(row, first[i]) {
				t.Error(a, i)
			}
		}
	}
}
