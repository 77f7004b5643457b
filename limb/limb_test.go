package limb

import (
	"math"
	"math/big"
	"slices"
	"testing"
)

const top = math.MaxUint64

// value is the number that a row is, worked out by other means than the package's own.
func value(a []uint64) *big.Int {
	v := new(big.Int)
	for i, x := range a {
		limb := new(big.Int).SetUint64(x)
		v.Add(v, limb.Lsh(limb, uint(64*i)))
	}
	return v
}

func isTrim(a []uint64) bool { return len(a) == 0 || a[len(a)-1] != 0 }

// expect holds a row that was told against the number that it must be.
func expect(t *testing.T, got []uint64, want *big.Int, what string, args ...any) {
	t.Helper()
	if !isTrim(got) {
		t.Errorf("%s %v: %v is not trim", what, args, got)
	}
	if value(got).Cmp(want) != 0 {
		t.Errorf("%s %v: %v, want the limbs of %v", what, args, got, want)
	}
}

// samples are the chapter's edges, each also with limbs of 0 at its end, and some rows without a pattern.
func samples() [][]uint64 {
	rows := [][]uint64{
		nil, {}, {1}, {2}, {3}, {7}, {255}, {1 << 63}, {top - 1}, {top},
		{0, 1}, {1, 1}, {top, 1}, {0, 1 << 63}, {top, top}, {0, top}, {1, 0, 1},
		{0, 0, 1}, {top, 0, top}, {top, top, top}, {0, 0, 0, 0, 5}, {9, 3}, {3, 9},
		slices.Repeat([]uint64{top}, 9), slices.Repeat([]uint64{1 << 63}, 8),
	}
	for n := range 20 {
		rows = append(rows, scattered(n, uint64(n)))
	}
	for _, r := range slices.Clone(rows) {
		rows = append(rows, slices.Concat(r, []uint64{0}), slices.Concat(r, []uint64{0, 0, 0}))
	}
	return rows
}

// scattered is a row of n limbs that hangs on its seed alone.
func scattered(n int, seed uint64) []uint64 {
	row := make([]uint64, n)
	for i := range row {
		seed = seed*6364136223846793005 + 1442695040888963407
		row[i] = seed ^ seed>>29
	}
	return row
}

func shifts() []int {
	return []int{
		0, 1, 2, 31, 63, 64, 65, 127, 128, 129, 500, 959, 960, 999, 1000,
		-1, -2, -31, -63, -64, -65, -127, -128, -129, -500, -1000, -1001, -1280, -99999, -100000,
	}
}

func TestTrim(t *testing.T) {
	for _, a := range samples() {
		expect(t, Trim(a), value(a), "Trim", a)
	}
	if got := Trim([]uint64{1, 0, 2, 0, 0}); !slices.Equal(got, []uint64{1, 0, 2}) {
		t.Error(got)
	}
	if got := Trim([]uint64{0, 0, 0}); len(got) != 0 {
		t.Error(got)
	}
}

func TestCmp(t *testing.T) {
	for _, a := range samples() {
		for _, b := range samples() {
			if got, want := Cmp(a, b), value(a).Cmp(value(b)); got != want {
				t.Errorf("Cmp %v %v: %d, want %d", a, b, got, want)
			}
		}
	}
	if Cmp([]uint64{1, 2}, []uint64{2, 1}) != 1 || Cmp([]uint64{top}, []uint64{0, 1}) != -1 {
		t.Error("a higher limb counts more than all below it")
	}
	if Cmp(nil, []uint64{0, 0}) != 0 || Cmp([]uint64{9, 3, 0}, []uint64{9, 3}) != 0 {
		t.Error("limbs of 0 at the end count")
	}
}

func TestBits(t *testing.T) {
	for _, a := range samples() {
		if got, want := Bits(a), value(a).BitLen(); got != want {
			t.Errorf("Bits %v: %d, want %d", a, got, want)
		}
	}
	if Bits(nil) != 0 || Bits([]uint64{0, 0}) != 0 || Bits([]uint64{1}) != 1 || Bits([]uint64{top, 0}) != 64 || Bits([]uint64{0, 1}) != 65 {
		t.Error("an edge of a limb")
	}
}

func TestAddSubMul(t *testing.T) {
	for _, a := range samples() {
		for _, b := range samples() {
			va, vb := value(a), value(b)
			expect(t, Add(a, b), new(big.Int).Add(va, vb), "Add", a, b)
			expect(t, Mul(a, b), new(big.Int).Mul(va, vb), "Mul", a, b)
			d, ok := Sub(a, b)
			if below := va.Cmp(vb) < 0; ok == below || below && len(d) != 0 {
				t.Errorf("Sub %v %v: %v %v", a, b, d, ok)
			} else if ok {
				expect(t, d, new(big.Int).Sub(va, vb), "Sub", a, b)
			}
		}
	}
}

func TestAddExample(t *testing.T) {
	if got := Add([]uint64{top}, []uint64{1}); !slices.Equal(got, []uint64{0, 1}) {
		t.Error(got)
	}
}

func TestSubBelow(t *testing.T) {
	for i, x := range []struct{ a, b []uint64 }{
		{nil, []uint64{1}},
		{[]uint64{0, 0, 0}, []uint64{1}},
		{[]uint64{5}, []uint64{7}},
		{[]uint64{top}, []uint64{0, 1}},
		{[]uint64{top, 1}, []uint64{0, 2, 0}},
		{[]uint64{0, 0, 1}, []uint64{1, 0, 1}},
	} {
		if d, ok := Sub(x.a, x.b); ok || len(d) != 0 {
			t.Error(i, d, ok)
		}
	}
}

func TestMulLong(t *testing.T) {
	for _, n := range []int{30, 70} {
		full, mixed := slices.Repeat([]uint64{top}, n), scattered(n+1, 5)
		expect(t, Mul(full, full), new(big.Int).Mul(value(full), value(full)), "Mul of full rows", n)
		expect(t, Mul(full, mixed), new(big.Int).Mul(value(full), value(mixed)), "Mul", n)
	}
}

func TestShift(t *testing.T) {
	for _, a := range samples() {
		for _, n := range shifts() {
			want := value(a)
			if n < 0 {
				want.Rsh(want, uint(-n))
			} else {
				want.Lsh(want, uint(n))
			}
			expect(t, Shift(a, n), want, "Shift", a, n)
		}
	}
}

func TestShiftFarUp(t *testing.T) {
	for _, a := range samples() {
		want := value(a)
		want.Lsh(want, 1000)
		for _, n := range []int{1001, 1024, 5000, 1 << 40, math.MaxInt} {
			expect(t, Shift(a, n), want, "Shift", a, n)
		}
	}
}

// Only a row of more than 100000 bits tells -100000 from what is below it.
func TestShiftFarDown(t *testing.T) {
	long := append(make([]uint64, 1600), 5)
	want := value(long)
	expect(t, Shift(long, -100000), want.Rsh(want, 100000), "Shift", -100000)
	for _, a := range append(samples(), long) {
		for _, n := range []int{-100001, -200000, math.MinInt + 1, math.MinInt} {
			if got := Shift(a, n); len(got) != 0 {
				t.Errorf("Shift by %d: %v", n, got)
			}
		}
	}
}

func TestSumsAndProductsInAnyOrder(t *testing.T) {
	rows := samples()
	for i, a := range rows {
		b, c := rows[(i*7+3)%len(rows)], rows[(i*11+5)%len(rows)]
		if !slices.Equal(Add(a, b), Add(b, a)) || !slices.Equal(Mul(a, b), Mul(b, a)) {
			t.Error("the order of two", a, b)
		}
		if !slices.Equal(Add(Add(a, b), c), Add(a, Add(b, c))) || !slices.Equal(Mul(Mul(a, b), c), Mul(a, Mul(b, c))) {
			t.Error("the order of three", a, b, c)
		}
		if !slices.Equal(Mul(a, Add(b, c)), Add(Mul(a, b), Mul(a, c))) {
			t.Error("a product of a sum", a, b, c)
		}
	}
}

func TestSubTakesBackAdd(t *testing.T) {
	for _, a := range samples() {
		for _, b := range samples() {
			if d, ok := Sub(Add(a, b), b); !ok || !slices.Equal(d, Trim(a)) {
				t.Error(a, b, d, ok)
			}
		}
	}
}

// guarded is a copy of a row with limbs behind its length that nobody may write to.
func guarded(a []uint64) (row, whole []uint64) {
	whole = slices.Concat(a, []uint64{11, 12, 13, 14})
	return whole[:len(a)], whole
}

// everyCall makes each call of the chapter with both rows.
func everyCall(a, b []uint64) [][]uint64 {
	d, _ := Sub(a, b)
	Cmp(a, b)
	Bits(a)
	told := [][]uint64{Add(a, b), d, Mul(a, b), Trim(a)}
	for _, n := range append(shifts(), 2000, -200000) {
		told = append(told, Shift(a, n))
	}
	return told
}

func TestNothingHandedInIsChanged(t *testing.T) {
	for _, x := range samples() {
		for _, y := range samples() {
			a, wholeA := guarded(x)
			b, wholeB := guarded(y)
			keptA, keptB := slices.Clone(wholeA), slices.Clone(wholeB)
			everyCall(a, b)
			everyCall(a, a)
			if !slices.Equal(wholeA, keptA) || !slices.Equal(wholeB, keptB) {
				t.Fatal("changed", x, y)
			}
		}
	}
}

// Each row that is told is memory of its own: writing over it, and behind it, reaches no argument.
func TestToldRowsAreNew(t *testing.T) {
	for _, x := range samples() {
		a, whole := guarded(x)
		b := []uint64{1}
		kept := slices.Clone(whole)
		for _, row := range slices.Concat(everyCall(a, nil), everyCall(a, b)) {
			row = row[:cap(row)]
			for i := range row {
				row[i] = 77
			}
		}
		if !slices.Equal(whole, kept) || b[0] != 1 {
			t.Fatal("shared", x)
		}
	}
}

// The same arguments are answered the same, whatever was asked in between.
func TestOneAnswer(t *testing.T) {
	for _, a := range samples() {
		first := everyCall(a, []uint64{3, 1})
		everyCall([]uint64{top, top}, a)
		for i, row := range everyCall(a, []uint64{3, 1}) {
			if !slices.Equal(row, first[i]) {
				t.Error(a, i)
			}
		}
	}
}
