package ratio

import (
	"math"
	"math/big"
	"slices"
	"testing"

	"syzygy/api"
)

const top = math.MaxUint64

// whole is the number that a row is, worked out by other means than the layers' own.
func whole(a []uint64) *big.Int {
	v := new(big.Int)
	for i, x := range a {
		limb := new(big.Int).SetUint64(x)
		v.Add(v, limb.Lsh(limb, uint(64*i)))
	}
	return v
}

// row is the natural of a number, whatever its length.
func row(v *big.Int) api.Nat {
	var a api.Nat
	for left := new(big.Int).Set(v); left.Sign() > 0; left.Rsh(left, 64) {
		a = append(a, new(big.Int).And(left, new(big.Int).SetUint64(top)).Uint64())
	}
	return a
}

func value(a api.Rat) *big.Rat {
	v := new(big.Rat).SetFrac(whole(a.Num), whole(a.Den))
	if a.Neg {
		v.Neg(v)
	}
	return v
}

// written is the one way to write a number.
func written(v *big.Rat) api.Rat {
	return api.Rat{Neg: v.Sign() < 0, Num: row(new(big.Int).Abs(v.Num())), Den: row(v.Denom())}
}

// identical holds rows against each other limb by limb, without the package's Same.
func identical(a, b api.Rat) bool {
	return a.Neg == b.Neg && slices.Equal(a.Num, b.Num) && slices.Equal(a.Den, b.Den)
}

func isNothing(a api.Rat) bool { return !a.Neg && len(a.Num) == 0 && len(a.Den) == 0 }

func full(n int) api.Nat { return slices.Repeat(api.Nat{top}, n) }

// power is the row of base^k.
func power(base int64, k int64) api.Nat {
	return row(new(big.Int).Exp(big.NewInt(base), big.NewInt(k), nil))
}

func plus(num, den api.Nat) api.Rat  { return api.Rat{Num: num, Den: den} }
func minus(num, den api.Nat) api.Rat { return api.Rat{Neg: true, Num: num, Den: den} }

// frac is n by d, in lowest terms.
func frac(n, d int64) api.Rat { return written(big.NewRat(n, d)) }

func one() api.Nat { return api.Nat{1} }

// scattered is a row of n limbs that hangs on its seed alone; its last limb is not 0.
func scattered(n int, seed uint64) api.Nat {
	a := make(api.Nat, n)
	for i := range a {
		seed = seed*6364136223846793005 + 1442695040888963407
		a[i] = seed ^ seed>>29 | 1
	}
	return a
}

// numbers may be: small ones of either sign, edges of limbs and of MaxLimbs, and some without a pattern.
func numbers() []api.Rat {
	l := []api.Rat{
		frac(0, 1), {Num: api.Nat{}, Den: one()},
		frac(1, 1), frac(2, 1), frac(1, 2), frac(1, 3), frac(1, 6), frac(2, 3), frac(5, 6), frac(7, 4), frac(100, 99),
		plus(api.Nat{top}, one()), plus(one(), api.Nat{top}), plus(api.Nat{0, 1}, one()), plus(one(), api.Nat{0, 1}),
		plus(api.Nat{0, 1}, api.Nat{top}), plus(full(4), one()), plus(one(), full(4)), plus(power(2, 256), one()),
		plus(one(), power(2, 256)), plus(power(2, 255), power(3, 100)), plus(power(2, 300), power(3, 200)),
		plus(power(2, 511), one()), plus(power(2, 511), api.Nat{3}), plus(one(), power(2, 511)), plus(full(8), one()),
		plus(one(), full(8)), plus(full(8), power(2, 511)),
	}
	for n := 1; n <= api.MaxLimbs; n++ {
		seed := uint64(n)
		v := new(big.Rat).SetFrac(whole(scattered(n, seed)), whole(scattered(api.MaxLimbs+1-n, seed+50)))
		l = append(l, written(v))
	}
	for _, a := range slices.Clone(l) {
		if len(a.Num) > 0 {
			l = append(l, minus(a.Num, a.Den))
		}
	}
	return l
}

// strangers may not be, each for its own reason.
func strangers() []api.Rat {
	return []api.Rat{
		{}, {Neg: true}, // Den is 0
		plus(one(), nil), minus(one(), nil), plus(full(8), api.Nat{}),
		plus(api.Nat{0}, one()), plus(api.Nat{1, 0}, one()), plus(power(2, 512), one()), plus(full(9), one()), // Num may not be
		plus(one(), api.Nat{0}), plus(one(), api.Nat{1, 0}), plus(one(), power(2, 512)), plus(nil, api.Nat{0, 0}), // Den may not be
		plus(full(9), full(9)), plus(api.Nat{0}, nil), plus(scattered(30, 1), api.Nat{0}),
		plus(api.Nat{2}, api.Nat{4}), minus(api.Nat{6}, api.Nat{3}), plus(api.Nat{3}, api.Nat{3}), plus(full(8), full(8)), // Gcd is not 1
		plus(nil, api.Nat{2}), plus(nil, full(8)), plus(power(2, 511), power(2, 500)),
		minus(nil, one()), minus(api.Nat{}, one()), minus(nil, api.Nat{7}), // 0 with a sign
	}
}

func everyNumber() []api.Rat { return append(numbers(), strangers()...) }

// told holds what a call told against the number that it must be, in its one form.
func told(t *testing.T, what string, args []api.Rat, got api.Rat, err api.Errno, want *big.Rat) {
	t.Helper()
	if err != api.OK || !identical(got, written(want)) {
		t.Errorf("%s %v: %v %d, want %v", what, args, got, err, written(want))
	}
	if !May(got) {
		t.Errorf("%s %v: %v may not be", what, args, got)
	}
}

func refused(t *testing.T, what string, args []api.Rat, got api.Rat, err, want api.Errno) {
	t.Helper()
	if err != want || !isNothing(got) {
		t.Errorf("%s %v: %v %d, want nothing and %d", what, args, got, err, want)
	}
}

// fits asks whether rows are no longer than a natural may be.
func fits(l ...*big.Int) bool {
	return !slices.ContainsFunc(l, func(v *big.Int) bool { return v.BitLen() > 64*api.MaxLimbs })
}

func TestMay(t *testing.T) {
	for _, a := range numbers() {
		if !May(a) {
			t.Errorf("%v may be", a)
		}
	}
	for _, a := range strangers() {
		if May(a) {
			t.Errorf("%v may not be", a)
		}
	}
}

// Zero looks at Num's length alone, whatever else the number is.
func TestZero(t *testing.T) {
	for _, a := range everyNumber() {
		if Zero(a) != (len(a.Num) == 0) {
			t.Errorf("Zero %v: %v", a, Zero(a))
		}
	}
	if !Zero(api.Rat{}) || !Zero(minus(nil, api.Nat{0})) || Zero(plus(api.Nat{0}, one())) || !Zero(Of(0)) || Zero(Of(-1)) {
		t.Error("a Num without limbs, and no other, is 0")
	}
}

func TestSame(t *testing.T) {
	for i, a := range everyNumber() {
		for j, b := range everyNumber() {
			if got := Same(a, b); got != identical(a, b) || i == j && !got {
				t.Errorf("Same %v %v: %v", a, b, got)
			}
		}
	}
	if !Same(plus(nil, one()), plus(api.Nat{}, one())) {
		t.Error("no limbs are no limbs")
	}
	if Same(plus(one(), api.Nat{2}), plus(api.Nat{2}, api.Nat{4})) || Same(plus(nil, one()), plus(api.Nat{0}, one())) {
		t.Error("limbs are compared, not what they are worth")
	}
	if Same(frac(1, 2), frac(-1, 2)) || Same(frac(1, 2), frac(1, 3)) || Same(frac(1, 3), frac(2, 3)) || Same(api.Rat{}, api.Rat{Neg: true}) {
		t.Error("each of the three fields counts")
	}
	if !Same(minus(api.Nat{0}, api.Nat{0, 0}), minus(api.Nat{0}, api.Nat{0, 0})) {
		t.Error("numbers that may not be are compared, too")
	}
}

func TestNeg(t *testing.T) {
	for _, a := range everyNumber() {
		want := a
		want.Neg = a.Neg != (len(a.Num) > 0)
		if got := Neg(a); !identical(got, want) {
			t.Errorf("Neg %v: %v", a, got)
		}
	}
	if got := Neg(frac(-2, 3)); !identical(got, frac(2, 3)) {
		t.Error(got)
	}
	if got := Neg(minus(nil, api.Nat{7})); !identical(got, minus(nil, api.Nat{7})) {
		t.Error("without limbs a number stays as it is", got)
	}
	if got := Neg(plus(api.Nat{0}, nil)); !identical(got, minus(api.Nat{0}, nil)) {
		t.Error("a limb of 0 is one", got)
	}
}

// naturals may be; wrongRows may not.
func naturals() []api.Nat {
	return []api.Nat{
		nil, {}, one(), {2}, {3}, {4}, {6}, {12}, {top}, {0, 1}, {1, 1}, power(2, 300), power(6, 100), power(6, 197),
		power(2, 511), full(4), full(8), scattered(3, 7), scattered(8, 8),
	}
}

func wrongRows() []api.Nat {
	return []api.Nat{{0}, {1, 0}, {0, 0}, power(2, 512), full(9), append(full(8), 0), make(api.Nat, 40)}
}

func TestMake(t *testing.T) {
	for _, num := range naturals() {
		for _, den := range naturals() {
			for _, neg := range []bool{false, true} {
				args := []api.Rat{{Neg: neg, Num: num, Den: den}}
				got, err := Make(neg, num, den)
				if len(den) == 0 {
					refused(t, "Make", args, got, err, api.ErrZero)
				} else {
					told(t, "Make", args, got, err, value(args[0]))
				}
			}
		}
	}
}

func TestMakeZero(t *testing.T) {
	for _, den := range naturals()[2:] {
		for _, neg := range []bool{false, true} {
			if got, err := Make(neg, nil, den); err != api.OK || !identical(got, plus(nil, one())) {
				t.Errorf("Make %v 0 %v: %v %d", neg, den, got, err)
			}
		}
	}
}

// A row that may not be is told ahead of a den of 0.
func TestMakeWrongRows(t *testing.T) {
	for _, wrong := range wrongRows() {
		for _, other := range append(naturals(), wrongRows()...) {
			for _, neg := range []bool{false, true} {
				got, err := Make(neg, wrong, other)
				refused(t, "Make", []api.Rat{plus(wrong, other)}, got, err, api.ErrArg)
				got, err = Make(neg, other, wrong)
				refused(t, "Make", []api.Rat{plus(other, wrong)}, got, err, api.ErrArg)
			}
		}
	}
}

func TestOf(t *testing.T) {
	for _, n := range []int64{0, 1, -1, 2, -2, 10, -4711, 1 << 32, math.MaxInt64, -math.MaxInt64, math.MinInt64} {
		told(t, "Of", nil, Of(n), api.OK, big.NewRat(n, 1))
	}
	if got := Of(math.MinInt64); !identical(got, minus(api.Nat{1 << 63}, one())) {
		t.Error(got)
	}
	if got := Of(0); got.Neg || len(got.Num) != 0 || !slices.Equal(got.Den, one()) {
		t.Error(got)
	}
}

// added tells what Add must: the sum, and whether each product on the way, and their sum, has limbs enough.
func added(a, b api.Rat) (*big.Rat, bool) {
	x := new(big.Int).Mul(whole(a.Num), whole(b.Den))
	y := new(big.Int).Mul(whole(b.Num), whole(a.Den))
	den := new(big.Int).Mul(whole(a.Den), whole(b.Den))
	sum := new(big.Int).Add(x, y)
	if a.Neg != b.Neg {
		sum.Sub(x, y)
	}
	return new(big.Rat).Add(value(a), value(b)), fits(x, y, den, sum)
}

func multiplied(a, b api.Rat) (*big.Rat, bool) {
	num := new(big.Int).Mul(whole(a.Num), whole(b.Num))
	den := new(big.Int).Mul(whole(a.Den), whole(b.Den))
	return new(big.Rat).Mul(value(a), value(b)), fits(num, den)
}

func TestAddMul(t *testing.T) {
	for _, a := range numbers() {
		for _, b := range numbers() {
			args := []api.Rat{a, b}
			got, err := Add(a, b)
			if want, ok := added(a, b); ok {
				told(t, "Add", args, got, err, want)
			} else {
				refused(t, "Add", args, got, err, api.ErrBig)
			}
			got, err = Mul(a, b)
			if want, ok := multiplied(a, b); ok {
				told(t, "Mul", args, got, err, want)
			} else {
				refused(t, "Mul", args, got, err, api.ErrBig)
			}
		}
	}
}

// What may not be is told ahead of what is too great, on either side.
func TestAddMulWrongNumbers(t *testing.T) {
	for _, a := range strangers() {
		for _, b := range everyNumber() {
			for _, args := range [][]api.Rat{{a, b}, {b, a}} {
				got, err := Add(args[0], args[1])
				refused(t, "Add", args, got, err, api.ErrArg)
				got, err = Mul(args[0], args[1])
				refused(t, "Mul", args, got, err, api.ErrArg)
			}
		}
	}
}

func TestAddExample(t *testing.T) {
	if got, err := Add(frac(1, 6), frac(1, 3)); err != api.OK || !identical(got, plus(one(), api.Nat{2})) {
		t.Error(got, err)
	}
}

func TestAddSigns(t *testing.T) {
	for _, x := range []struct{ a, b, want api.Rat }{
		{frac(1, 2), frac(1, 3), frac(5, 6)},
		{frac(-1, 2), frac(-1, 3), frac(-5, 6)},
		{frac(1, 2), frac(-1, 3), frac(1, 6)},
		{frac(-1, 2), frac(1, 3), frac(-1, 6)},
		{frac(1, 3), frac(-1, 2), frac(-1, 6)},
		{frac(-1, 3), frac(1, 2), frac(1, 6)},
		{frac(1, 2), frac(-1, 2), frac(0, 1)},
		{frac(-1, 2), frac(1, 2), frac(0, 1)},
		{frac(0, 1), frac(-1, 2), frac(-1, 2)},
		{frac(-1, 2), frac(0, 1), frac(-1, 2)},
	} {
		if got, err := Add(x.a, x.b); err != api.OK || !identical(got, x.want) {
			t.Errorf("Add %v %v: %v %d", x.a, x.b, got, err)
		}
	}
}

// Each number on the way of Add has just MaxLimbs limbs once, and one more once.
func TestAddLimits(t *testing.T) {
	most := new(big.Int).Sub(whole(power(2, 512)), big.NewInt(1))
	lessTwo := row(new(big.Int).Sub(most, big.NewInt(1)))
	for i, x := range []struct {
		a, b api.Rat
		err  api.Errno
	}{
		{plus(power(2, 255), one()), plus(one(), row(new(big.Int).Add(whole(power(2, 256)), big.NewInt(1)))), api.OK}, // a.Num by b.Den
		{plus(power(2, 256), one()), plus(one(), row(new(big.Int).Add(whole(power(2, 256)), big.NewInt(1)))), api.ErrBig},
		{plus(one(), power(3, 161)), plus(power(2, 256), one()), api.OK}, // b.Num by a.Den
		{plus(one(), power(3, 162)), plus(power(2, 256), one()), api.ErrBig},
		{plus(one(), power(2, 255)), plus(one(), power(2, 256)), api.OK}, // both Dens
		{plus(one(), power(2, 256)), plus(one(), power(2, 256)), api.ErrBig},
		{plus(lessTwo, one()), Of(1), api.OK}, // the sum
		{plus(full(8), one()), Of(1), api.ErrBig},
		{minus(lessTwo, one()), Of(-1), api.OK},
		{minus(full(8), one()), Of(-1), api.ErrBig},
		{plus(full(8), one()), Of(-1), api.OK}, // the difference
		{Of(1), minus(full(8), one()), api.OK},
		{plus(full(8), one()), minus(full(8), one()), api.OK},
		{plus(full(8), one()), frac(-1, 2), api.ErrBig},
	} {
		want, ok := added(x.a, x.b)
		if ok != (x.err == api.OK) {
			t.Fatal("the case is wrong", i)
		}
		got, err := Add(x.a, x.b)
		if ok {
			told(t, "Add", []api.Rat{x.a, x.b}, got, err, want)
		} else {
			refused(t, "Add", []api.Rat{x.a, x.b}, got, err, api.ErrBig)
		}
	}
}

// What is too great on the way is told, though in lowest terms the number is small enough.
func TestAddTooGreatOnTheWay(t *testing.T) {
	for _, x := range [][]api.Rat{
		{plus(power(2, 511), api.Nat{3}), minus(power(2, 511), api.Nat{3})}, // 0
		{plus(one(), power(2, 300)), plus(one(), power(2, 300))},            // 1 by 2^299
		{plus(one(), full(8)), minus(one(), full(8))},                       // 0
		{plus(one(), full(8)), frac(1, 3)},                                  // 3 divides 2^512 - 1
	} {
		want, _ := added(x[0], x[1])
		if !fits(want.Num(), want.Denom()) {
			t.Fatal("the case is wrong", x)
		}
		got, err := Add(x[0], x[1])
		refused(t, "Add", x, got, err, api.ErrBig)
	}
}

func TestMulLimits(t *testing.T) {
	for i, x := range []struct {
		a, b api.Rat
		err  api.Errno
	}{
		{plus(power(2, 255), one()), minus(power(2, 256), one()), api.OK},
		{plus(power(2, 256), one()), minus(power(2, 256), one()), api.ErrBig},
		{minus(one(), power(2, 255)), minus(one(), power(2, 256)), api.OK},
		{minus(one(), power(2, 256)), minus(one(), power(2, 256)), api.ErrBig},
		{plus(full(8), one()), plus(one(), full(8)), api.OK},
		{plus(full(8), one()), Of(2), api.ErrBig},
		{plus(one(), full(8)), frac(1, 2), api.ErrBig},
		{plus(power(2, 400), power(3, 250)), plus(power(3, 250), power(2, 400)), api.ErrBig}, // 1, in lowest terms
		{plus(power(2, 511), one()), plus(api.Nat{3}, power(2, 511)), api.ErrBig},            // 3
		{plus(power(2, 511), api.Nat{3}), plus(one(), power(2, 511)), api.ErrBig},            // 1/3
		{Of(0), plus(full(8), one()), api.OK},
		{Of(0), minus(one(), full(8)), api.OK},
	} {
		want, ok := multiplied(x.a, x.b)
		if ok != (x.err == api.OK) {
			t.Fatal("the case is wrong", i)
		}
		got, err := Mul(x.a, x.b)
		if ok {
			told(t, "Mul", []api.Rat{x.a, x.b}, got, err, want)
		} else {
			refused(t, "Mul", []api.Rat{x.a, x.b}, got, err, api.ErrBig)
		}
	}
}

func TestInv(t *testing.T) {
	for _, a := range numbers() {
		got, err := Inv(a)
		if len(a.Num) == 0 {
			refused(t, "Inv", []api.Rat{a}, got, err, api.ErrZero)
		} else {
			told(t, "Inv", []api.Rat{a}, got, err, new(big.Rat).Inv(value(a)))
		}
	}
	for _, a := range strangers() {
		got, err := Inv(a)
		refused(t, "Inv", []api.Rat{a}, got, err, api.ErrArg)
	}
	if got, err := Inv(frac(-2, 3)); err != api.OK || !identical(got, frac(-3, 2)) {
		t.Error(got, err)
	}
}

func TestSum(t *testing.T) {
	for _, l := range [][]api.Rat{nil, {}} {
		if got, err := Sum(l...); err != api.OK || !identical(got, Of(0)) {
			t.Error("of none", got, err)
		}
	}
	for _, a := range numbers() {
		got, err := Sum(a)
		told(t, "Sum", []api.Rat{a}, got, err, value(a))
	}
	if got, err := Sum(frac(1, 2), frac(1, 3), frac(1, 6)); err != api.OK || !identical(got, Of(1)) {
		t.Error(got, err)
	}
	var many []api.Rat
	for n := range int64(300) {
		many = append(many, frac(n-100, 12))
	}
	if got, err := Sum(many...); err != api.OK || !identical(got, frac(14850, 12)) {
		t.Error("of many", got, err)
	}
}

// The numbers are added in their order, and the first error is told, whichever a later one would be.
func TestSumErrors(t *testing.T) {
	most := plus(full(8), one())
	for i, x := range []struct {
		l   []api.Rat
		err api.Errno
	}{
		{[]api.Rat{{}}, api.ErrArg},
		{[]api.Rat{frac(1, 2), {}}, api.ErrArg},
		{[]api.Rat{plus(api.Nat{2}, api.Nat{4}), frac(1, 2)}, api.ErrArg},
		{[]api.Rat{most, Of(1)}, api.ErrBig},
		{[]api.Rat{most, Of(1), {}}, api.ErrBig},
		{[]api.Rat{most, {}, Of(1), most}, api.ErrArg},
		{[]api.Rat{{}, most, most}, api.ErrArg},
		{[]api.Rat{most, Of(1), Of(-1)}, api.ErrBig}, // the whole of it would be small enough
	} {
		if got, err := Sum(x.l...); err != x.err || !isNothing(got) {
			t.Error(i, got, err)
		}
	}
	if got, err := Sum(most, Of(-1), Of(1)); err != api.OK || !identical(got, most) {
		t.Error("in this order nothing is too great", got, err)
	}
	for _, a := range strangers() {
		got, err := Sum(a)
		refused(t, "Sum", []api.Rat{a}, got, err, api.ErrArg)
	}
}

func TestCmp(t *testing.T) {
	for _, a := range everyNumber() {
		for _, b := range everyNumber() {
			want := 0
			if May(a) && May(b) {
				want = value(a).Cmp(value(b))
			}
			if got := Cmp(a, b); got != want {
				t.Errorf("Cmp %v %v: %d, want %d", a, b, got, want)
			}
		}
	}
}

// Among the products that tell these apart some have more than MaxLimbs limbs.
func TestCmpOfAnySize(t *testing.T) {
	low := plus(row(new(big.Int).Sub(whole(full(8)), big.NewInt(1))), full(8))
	high := plus(row(new(big.Int).Sub(whole(full(8)), big.NewInt(2))), row(new(big.Int).Sub(whole(full(8)), big.NewInt(1))))
	for i, x := range []struct {
		a, b api.Rat
		want int
	}{
		{high, low, -1}, {low, high, 1}, {low, low, 0}, {Neg(low), Neg(high), -1}, {Neg(high), Neg(low), 1},
		{Neg(high), low, -1}, {high, Neg(low), 1}, {low, Of(1), -1}, {Neg(low), Of(-1), 1},
		{plus(full(8), one()), plus(one(), full(8)), 1}, {minus(full(8), one()), minus(one(), full(8)), -1},
		{plus(full(8), api.Nat{2}), plus(full(8), api.Nat{7}), 1},
		{Of(0), minus(one(), full(8)), 1}, {Of(0), plus(one(), full(8)), -1}, {minus(one(), full(8)), Of(0), -1},
	} {
		if !May(x.a) || !May(x.b) {
			t.Fatal("the case is wrong", i)
		}
		if got := Cmp(x.a, x.b); got != x.want {
			t.Error(i, got)
		}
	}
}

// Numbers are the same where they are written the same, however they came about.
func TestOneWayToWrite(t *testing.T) {
	for _, a := range numbers() {
		for _, b := range numbers() {
			if (Cmp(a, b) == 0) != Same(a, b) {
				t.Errorf("%v %v", a, b)
			}
			if sum, err := Add(a, b); err == api.OK {
				back, err := Add(sum, Neg(b))
				if err == api.OK && !Same(back, a) {
					t.Errorf("%v and %v, without it: %v", a, b, back)
				}
			}
			if product, err := Mul(a, b); err == api.OK && !Zero(b) {
				by, _ := Inv(b)
				back, err := Mul(product, by)
				if err == api.OK && !Same(back, a) {
					t.Errorf("%v times %v, by it: %v", a, b, back)
				}
			}
		}
	}
	for k := uint64(1); k < 40; k++ {
		if got, err := Make(true, api.Nat{6 * k}, api.Nat{4 * k}); err != api.OK || !Same(got, frac(-3, 2)) {
			t.Error(k, got, err)
		}
	}
}

// guarded is a copy of a number with limbs behind the lengths of its rows that nobody may write to.
func guarded(a api.Rat) (b api.Rat, rows []api.Nat) {
	num, den := slices.Concat(a.Num, api.Nat{11, 12, 13}), slices.Concat(a.Den, api.Nat{21, 22, 23})
	return api.Rat{Neg: a.Neg, Num: num[:len(a.Num)], Den: den[:len(a.Den)]}, []api.Nat{num, den}
}

// everyCall makes each call of the chapter with both numbers.
func everyCall(a, b api.Rat) []api.Rat {
	May(a)
	Zero(a)
	Cmp(a, b)
	Same(a, b)
	add, _ := Add(a, b)
	mul, _ := Mul(a, b)
	inv, _ := Inv(a)
	made, _ := Make(a.Neg, a.Num, b.Den)
	l := []api.Rat{a, b, a}
	sum, _ := Sum(l...)
	sumOne, _ := Sum(a)
	if !identical(l[0], a) || !identical(l[1], b) || !identical(l[2], a) {
		panic("Sum changed its list")
	}
	return []api.Rat{add, mul, inv, made, Neg(a), sum, sumOne}
}

func equalRows(a, b []api.Nat) bool {
	return slices.EqualFunc(a, b, func(x, y api.Nat) bool { return slices.Equal(x, y) })
}

// Nothing handed in is changed, by the calls or by who writes over what they told.
func TestNothingHandedInIsChanged(t *testing.T) {
	for _, x := range everyNumber() {
		for _, y := range everyNumber() {
			a, rowsA := guarded(x)
			b, rowsB := guarded(y)
			for _, got := range slices.Concat(everyCall(a, b), everyCall(a, a)) {
				for _, told := range []api.Nat{got.Num, got.Den} {
					told = told[:cap(told)]
					for i := range told {
						told[i] = 77
					}
				}
			}
			_, keptA := guarded(x)
			_, keptB := guarded(y)
			if !equalRows(rowsA, keptA) || !equalRows(rowsB, keptB) {
				t.Fatalf("changed %v %v", x, y)
			}
		}
	}
}

// The same arguments are answered the same, whatever was asked in between.
func TestOneAnswer(t *testing.T) {
	for _, a := range everyNumber() {
		first := everyCall(a, frac(-5, 7))
		everyCall(frac(9, 4), a)
		for i, got := range everyCall(a, frac(-5, 7)) {
			if !identical(got, first[i]) {
				t.Errorf("%v: %d", a, i)
			}
		}
	}
}

func TestOfIsNewEachTime(t *testing.T) {
	Of(5).Den[0] = 9
	if got := Of(5); !identical(got, frac(5, 1)) {
		t.Error(got)
	}
	empty, _ := Sum()
	empty.Den[0] = 9
	if got, _ := Sum(); !identical(got, frac(0, 1)) {
		t.Error(got)
	}
}
