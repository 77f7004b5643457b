package digit

import (
	"math"
	"math/big"
	"slices"
	"strings"
	"testing"

	"syzygy/api"
	"syzygy/limb"
	"syzygy/nat"
)

const top = math.MaxUint64

// value is the number that a row is, worked out by other means than the layers' own.
func value(a []uint64) *big.Int {
	v := new(big.Int)
	for i, x := range a {
		limb := new(big.Int).SetUint64(x)
		v.Add(v, limb.Lsh(limb, uint(64*i)))
	}
	return v
}

func full(n int) api.Nat { return slices.Repeat(api.Nat{top}, n) }

// power2 is the row of 2^k.
func power2(k int) api.Nat {
	row := make(api.Nat, k/64+1)
	row[k/64] = 1 << (k % 64)
	return row
}

// row is the trim row of a number, worked out by other means than the layers' own.
func row(v *big.Int) api.Nat {
	var a api.Nat
	for v = new(big.Int).Set(v); v.Sign() > 0; v.Rsh(v, 64) {
		a = append(a, new(big.Int).And(v, new(big.Int).SetUint64(top)).Uint64())
	}
	return a
}

// scattered is a row of n limbs that hangs on its seed alone; its last limb is not 0.
func scattered(n int, seed uint64) api.Nat {
	row := make(api.Nat, n)
	for i := range row {
		seed = seed*6364136223846793005 + 1442695040888963407
		row[i] = seed ^ seed>>29 | 1
	}
	return row
}

func power(base uint64, n int) *big.Int {
	return new(big.Int).Exp(new(big.Int).SetUint64(base), big.NewInt(int64(n)), nil)
}

// naturals are rows that may be: edges of limbs, of MaxLimbs, just around the
// powers of ten (where texts have many digits 0, or 9), and some without a pattern.
func naturals() []api.Nat {
	rows := []api.Nat{
		nil, {}, {1}, {2}, {9}, {10}, {11}, {1 << 32}, {1 << 63}, {top - 1}, {top},
		{0, 1}, {1, 1}, {top, 1}, {0, 0, 1 << 63}, {0, 0, 0, 1},
		power2(255), power2(256), power2(511), full(2), full(4), full(7), full(8),
	}
	for n := 1; n <= 154; n++ {
		ten := power(10, n)
		rows = append(rows, row(ten), row(new(big.Int).Sub(ten, big.NewInt(1))), row(new(big.Int).Add(ten, big.NewInt(1))))
	}
	for n := 1; n <= api.MaxLimbs; n++ {
		rows = append(rows, scattered(n, uint64(n)), scattered(n, uint64(n+100)))
	}
	return rows
}

// strangers are rows that may not be: not trim, too long, or both.
func strangers() []api.Nat {
	return []api.Nat{
		{0}, {1, 0}, {0, 0}, {top, top, 0}, make(api.Nat, 8), append(full(7), 0),
		power2(512), full(9), append(full(8), 0), make(api.Nat, 9), scattered(20, 3), make(api.Nat, 70),
	}
}

func everyRow() []api.Nat { return append(naturals(), strangers()...) }

func bases() []uint64 {
	return []uint64{2, 3, 7, 10, 16, 256, 1 << 32, 1<<32 + 1, partBase - 1, partBase, partBase + 1, 1<<63 - 1, 1 << 63, 1<<63 + 1, top - 1, top}
}

// digitSum is the number that digits are, worked out by other means than the layers' own.
func digitSum(l []uint64, b uint64) *big.Int {
	sum, base := new(big.Int), new(big.Int).SetUint64(b)
	for _, d := range slices.Backward(l) {
		sum.Add(sum.Mul(sum, base), new(big.Int).SetUint64(d))
	}
	return sum
}

func TestBase(t *testing.T) {
	for _, a := range naturals() {
		for _, b := range bases() {
			l := Base(a, b)
			tooGreat := slices.ContainsFunc(l, func(d uint64) bool { return d >= b })
			if digitSum(l, b).Cmp(value(a)) != 0 || tooGreat || len(l) > 0 && l[len(l)-1] == 0 {
				t.Errorf("Base %x %d: %d", a, b, l)
			}
		}
	}
}

func TestBaseEdges(t *testing.T) {
	for i, x := range []struct {
		a    api.Nat
		b    uint64
		want []uint64
	}{
		{nil, 2, nil},
		{nil, top, nil},
		{api.Nat{1}, 2, []uint64{1}},
		{api.Nat{2}, 2, []uint64{0, 1}},
		{api.Nat{11}, 2, []uint64{1, 1, 0, 1}},
		{api.Nat{907}, 10, []uint64{7, 0, 9}},
		{api.Nat{1 << 63}, 1 << 63, []uint64{0, 1}},
		{api.Nat{1<<63 - 1}, 1 << 63, []uint64{1<<63 - 1}},
		{api.Nat{0, 1}, 1 << 63, []uint64{0, 2}},
		{api.Nat{top - 1}, top, []uint64{top - 1}},
		{api.Nat{top}, top, []uint64{0, 1}},
		{api.Nat{0, 1}, top, []uint64{1, 1}},
		{full(8), 2, slices.Repeat([]uint64{1}, 512)},
		{power2(511), 2, append(make([]uint64, 511), 1)},
		{full(8), 1 << 32, slices.Repeat([]uint64{1<<32 - 1}, 16)},
	} {
		if got := Base(x.a, x.b); !slices.Equal(got, x.want) {
			t.Error(i, got)
		}
	}
}

func TestBaseOfNothing(t *testing.T) {
	for _, a := range strangers() {
		for _, b := range append(bases(), 0, 1) {
			if got := Base(a, b); len(got) != 0 {
				t.Errorf("Base %x %d: %d", a, b, got)
			}
		}
	}
	for _, a := range naturals() {
		for b := range uint64(2) {
			if got := Base(a, b); len(got) != 0 {
				t.Errorf("Base %x %d: %d", a, b, got)
			}
		}
	}
}

// told holds what From, or Parse, answered against the number that it must be.
func told(t *testing.T, what string, a api.Nat, err api.Errno, want *big.Int) {
	t.Helper()
	if want.BitLen() > 512 {
		if len(a) != 0 || err != api.ErrBig {
			t.Errorf("%s: %x %d, want nothing and ErrBig", what, a, err)
		}
		return
	}
	if err != api.OK || !nat.May(a) || value(a).Cmp(want) != 0 {
		t.Errorf("%s: %x %d, want the limbs of %x", what, a, err, want)
	}
}

// digitRows are digits below the base: low ones and high ones, alone and above
// others, with and without digits 0 at the end.
func digitRows(b uint64) [][]uint64 {
	rows := [][]uint64{nil, {0}, {1}, {b - 1}, {b / 2, 0}, {0, 0, 0}}
	for _, n := range []int{2, 5, 7, 8, 9, 12, 16, 17, 154, 155, 300, 511, 512, 513} {
		mixed := scattered(n, b)
		for i := range mixed {
			mixed[i] %= b
		}
		highest := slices.Repeat([]uint64{b - 1}, n)
		rows = append(rows, highest, mixed, append(make([]uint64, n), 1), make([]uint64, n), slices.Concat(highest, make([]uint64, 40)))
	}
	return rows
}

func TestFrom(t *testing.T) {
	for _, b := range bases() {
		for _, l := range digitRows(b) {
			a, err := From(l, b)
			told(t, "From", a, err, digitSum(l, b))
		}
	}
}

func TestFromTakesBaseBack(t *testing.T) {
	for _, a := range naturals() {
		for _, b := range bases() {
			if got, err := From(Base(a, b), b); !slices.Equal(got, a) || err != api.OK {
				t.Errorf("%x %d: %x %d", a, b, got, err)
			}
		}
	}
}

// To each base the greatest natural that may be, and the next one, by their digits.
func TestFromJustMaxLimbs(t *testing.T) {
	most := value(full(8))
	for _, b := range bases() {
		base := new(big.Int).SetUint64(b)
		for i := range int64(2) {
			v := new(big.Int).Add(most, big.NewInt(i))
			var l []uint64
			for left := new(big.Int).Set(v); left.Sign() > 0; {
				d := new(big.Int)
				left.QuoRem(left, base, d)
				l = append(l, d.Uint64())
			}
			for _, zeros := range []int{0, 1, 100} {
				a, err := From(append(slices.Clone(l), make([]uint64, zeros)...), b)
				told(t, "From", a, err, v)
			}
		}
	}
}

func noNatural(t *testing.T, l []uint64, b uint64) {
	t.Helper()
	if a, err := From(l, b); len(a) != 0 || err != api.ErrArg {
		t.Errorf("From %d %d: %x %d, want nothing and ErrArg", l, b, a, err)
	}
}

// A base that is none, and a digit that is not below the base, wherever it
// stands, is told ahead of a sum that is too great.
func TestFromWrong(t *testing.T) {
	for _, l := range [][]uint64{nil, {}, {0}, {1}, {0, 0}, {1, 1}, {top}, slices.Repeat([]uint64{1}, 600)} {
		noNatural(t, l, 0)
		noNatural(t, l, 1)
	}
	for _, b := range bases() {
		for _, n := range []int{1, 2, 3, 600} {
			for _, place := range []int{0, n / 2, n - 1} {
				for _, wrong := range []uint64{b, b/2 + 1<<63, top} {
					l := slices.Repeat([]uint64{b - 1}, n)
					l[place] = wrong
					noNatural(t, l, b)
				}
			}
		}
	}
}

func TestPrint(t *testing.T) {
	for _, a := range naturals() {
		if got, want := Print(a), value(a).String(); got != want {
			t.Errorf("Print %x: %s, want %s", a, got, want)
		}
	}
	for s, a := range map[string]api.Nat{"0": nil, "1": {1}, "10": {10}, "18446744073709551615": {top}, "18446744073709551616": {0, 1}, "10000000000000000000": {partBase}, "9999999999999999999": {partBase - 1}} {
		if got := Print(a); got != s {
			t.Errorf("Print %x: %s, want %s", a, got, s)
		}
	}
	for _, a := range strangers() {
		if got := Print(a); got != "" {
			t.Errorf("Print %x: %s", a, got)
		}
	}
}

// texts are digits without a 0 ahead of others, of every length around the
// greatest natural, and some longer ones.
func texts() []string {
	all := []string{"0", "1", "9", "10", "19", "90", "99", "100", "101", "18446744073709551615", "18446744073709551616"}
	for _, n := range []int{17, 18, 19, 20, 36, 37, 38, 39, 56, 57, 58, 152, 153, 154, 155, 156, 171, 172, 199, 200, 201, 202, 1000, 3000} {
		all = append(all, "1"+strings.Repeat("0", n-1), strings.Repeat("9", n), strings.Repeat("1234567890", n/10+1)[:n], "1"+strings.Repeat("0", n-2)+"1")
	}
	return all
}

func number(s string) *big.Int {
	v, _ := new(big.Int).SetString(s, 10)
	return v
}

func TestParse(t *testing.T) {
	for _, s := range texts() {
		a, err := Parse(s)
		told(t, s, a, err, number(s))
	}
	most := value(full(8))
	for i := int64(-3); i <= 3; i++ {
		v := new(big.Int).Add(most, big.NewInt(i))
		a, err := Parse(v.String())
		told(t, v.String(), a, err, v)
	}
}

func noDigits(t *testing.T, s string) {
	t.Helper()
	if a, err := Parse(s); len(a) != 0 || err != api.ErrDigit {
		t.Errorf("Parse %q: %x %d, want nothing and ErrDigit", s, a, err)
	}
}

// Every byte that is no digit, at the beginning, inside and at the end of texts
// of any length: also of those that would be too great.
func TestParseBytesThatAreNoDigits(t *testing.T) {
	for c := range 256 {
		if '0' <= c && c <= '9' {
			continue
		}
		b := string([]byte{byte(c)})
		noDigits(t, b)
		for _, n := range []int{1, 2, 18, 19, 20, 154, 199, 200, 201, 1000} {
			s := strings.Repeat("7", n)
			noDigits(t, b+s)
			noDigits(t, s[:n/2]+b+s[n/2:])
			noDigits(t, s+b)
		}
	}
	for _, s := range []string{"", "１２", "+1", "-1", "1e3", "1_000", "0x1", " 1", "1\n", "\x001", "1/2"} {
		noDigits(t, s)
	}
}

func TestParseZeroAhead(t *testing.T) {
	for _, s := range append(texts(), "00", "000") {
		noDigits(t, "0"+s)
		noDigits(t, strings.Repeat("0", 300)+s)
	}
	if a, err := Parse("0"); len(a) != 0 || err != api.OK {
		t.Error("Parse 0", a, err)
	}
}

func TestWhatWasPrintedIsParsed(t *testing.T) {
	seen := map[string]int{}
	for _, a := range naturals() {
		s := Print(a)
		if got, err := Parse(s); !slices.Equal(got, a) || err != api.OK {
			t.Errorf("%x: %s: %x %d", a, s, got, err)
		}
		seen[s]++
	}
	unlike := naturals()
	slices.SortFunc(unlike, func(a, b api.Nat) int { return limb.Cmp(a, b) })
	unlike = slices.CompactFunc(unlike, func(a, b api.Nat) bool { return slices.Equal(a, b) })
	if len(seen) != len(unlike) {
		t.Error("two naturals have one text", len(seen), len(unlike))
	}
}

// One text of each natural: what is parsed prints as what it was.
func TestWhatWasParsedIsPrinted(t *testing.T) {
	all := texts()
	for n := range 1200 {
		all = append(all, big.NewInt(int64(n)).String(), "0"+big.NewInt(int64(n)).String())
	}
	for _, s := range all {
		if a, err := Parse(s); err == api.OK && Print(a) != s {
			t.Errorf("%s: %s", s, Print(a))
		}
	}
}

// guarded is a copy of a row with limbs behind its length that nobody may write to.
func guarded(a []uint64) (row, whole []uint64) {
	whole = slices.Concat(a, []uint64{1, 0, 1, 0})
	return whole[:len(a)], whole
}

// everyCall makes each call of the chapter with a row, as a natural and as digits, and tells its rows.
func everyCall(a []uint64) [][]uint64 {
	parsed, _ := Parse(Print(a))
	rows := [][]uint64{parsed}
	for _, b := range append(bases(), 0, 1) {
		sum, _ := From(a, b)
		rows = append(rows, Base(a, b), sum)
	}
	return rows
}

func digitsAndRows() [][]uint64 {
	var all [][]uint64
	for _, a := range everyRow() {
		all = append(all, a)
	}
	return append(append(all, digitRows(2)...), digitRows(10)...)
}

func TestNothingHandedInIsChanged(t *testing.T) {
	for _, x := range digitsAndRows() {
		a, whole := guarded(x)
		kept := slices.Clone(whole)
		everyCall(a)
		if !slices.Equal(whole, kept) {
			t.Fatal("changed", x)
		}
	}
}

// Each row that is told is memory of its own: writing over it, and behind it,
// reaches no argument, and nothing else that was told.
func TestToldRowsAreNew(t *testing.T) {
	for _, x := range digitsAndRows() {
		a, whole := guarded(x)
		kept := slices.Clone(whole)
		rows := everyCall(a)
		for i, r := range rows {
			for j := range r[:cap(r)] {
				r[:cap(r)][j] = uint64(i)
			}
		}
		for i, r := range rows {
			if slices.ContainsFunc(r, func(y uint64) bool { return y != uint64(i) }) {
				t.Fatal("two rows share memory", x)
			}
		}
		if !slices.Equal(whole, kept) {
			t.Fatal("a row shares memory with an argument", x)
		}
	}
}

// The same arguments are answered the same, whatever was asked in between.
func TestOneAnswer(t *testing.T) {
	for _, a := range digitsAndRows() {
		first, text := everyCall(a), Print(a)
		everyCall(full(8))
		for i, r := range everyCall(a) {
			if !slices.Equal(r, first[i]) || Print(a) != text {
				t.Error(a, i)
			}
		}
	}
}
