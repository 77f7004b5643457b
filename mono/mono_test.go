package mono

import (
	"math"
	"slices"
	"testing"

	"syzygy/api"
)

const top = api.MaxExp

// one is the monomial without any variable.
var one = api.Mono{}

// with is m with another exponent at one place.
func with(m api.Mono, at, exponent int) api.Mono {
	m[at] = exponent
	return m
}

// full has one exponent everywhere.
func full(exponent int) api.Mono {
	return api.Mono{exponent, exponent, exponent, exponent}
}

// grid are all monomials with these exponents.
func grid(exponents ...int) []api.Mono {
	var l []api.Mono
	for _, x := range exponents {
		for _, y := range exponents {
			for _, z := range exponents {
				for _, w := range exponents {
					l = append(l, api.Mono{x, y, z, w})
				}
			}
		}
	}
	return l
}

// scattered are count monomials that hang on their seed alone, none with an exponent above most.
func scattered(count, most int, seed uint64) []api.Mono {
	l := make([]api.Mono, count)
	for i := range l {
		for k := range l[i] {
			seed = seed*6364136223846793005 + 1442695040888963407
			l[i][k] = int((seed >> 33) % uint64(most+1))
		}
	}
	return l
}

// monos are those that may be, the edges among them.
func monos() []api.Mono {
	l := append(grid(0, 1, top), scattered(60, top, 1)...)
	return append(l, api.Mono{1, 2, 3, 4}, api.Mono{4, 3, 2, 1}, api.Mono{0, 9}, full(top/2), full(top-1), full(top/2+1))
}

// wrongExponents are none that may be.
func wrongExponents() []int {
	return []int{-1, -2, -top, top + 1, top + 2, 2 * top, 256, 1 << 32, 1<<32 + 1, math.MaxInt, math.MinInt, math.MinInt + 1}
}

// wrongs are those that may not be: one exponent at each place, among others that may, and all of them.
func wrongs() []api.Mono {
	var l []api.Mono
	for _, n := range wrongExponents() {
		for at := range one {
			for _, m := range []api.Mono{one, full(1), full(top)} {
				l = append(l, with(m, at, n))
			}
		}
		l = append(l, full(n))
	}
	// the sum of these exponents, wrapped or not, is small
	return append(l, api.Mono{-1, 1}, api.Mono{0, 2, -2}, api.Mono{top + 1, -1}, api.Mono{math.MaxInt, math.MaxInt, 2}, api.Mono{0, 0, math.MinInt, math.MinInt})
}

func allOrders() []int { return []int{api.Lex, api.Grlex, api.Grevlex} }

// noOrders are the numbers of none.
func noOrders() []int { return []int{-1, -2, 3, 4, 255, 256, 1 << 32, math.MaxInt, math.MinInt} }

// P8.1

func TestMayEdges(t *testing.T) {
	for at := range one {
		for _, m := range []api.Mono{one, full(1), full(top), {7, 0, top, 1}} {
			for n := 0; n <= top; n++ {
				if !May(with(m, at, n)) {
					t.Errorf("May %v: false", with(m, at, n))
				}
			}
			for _, n := range wrongExponents() {
				if May(with(m, at, n)) {
					t.Errorf("May %v: true", with(m, at, n))
				}
			}
		}
	}
}

func TestMay(t *testing.T) {
	for _, m := range monos() {
		if !May(m) {
			t.Errorf("May %v: false", m)
		}
	}
	for _, m := range wrongs() {
		if May(m) {
			t.Errorf("May %v: true", m)
		}
	}
}

func TestDegree(t *testing.T) {
	for _, x := range []struct {
		m    api.Mono
		want int
	}{
		{one, 0}, {full(top), 4 * top}, {full(1), 4}, {api.Mono{1, 2, 3, 4}, 10}, {api.Mono{1, 10, 20, 30}, 61},
		{api.Mono{1}, 1}, {api.Mono{0, 1}, 1}, {api.Mono{0, 0, 1}, 1}, {api.Mono{0, 0, 0, 1}, 1}, {api.Mono{top, 0, 0, 1}, top + 1},
	} {
		if got := Degree(x.m); got != x.want {
			t.Errorf("Degree %v: %d, want %d", x.m, got, x.want)
		}
	}
	for _, m := range monos() {
		if got, want := Degree(m), m[0]+m[1]+m[2]+m[3]; got != want {
			t.Errorf("Degree %v: %d, want %d", m, got, want)
		}
	}
}

func TestDegreeOfWhatMayNotBe(t *testing.T) {
	for _, m := range wrongs() {
		if got := Degree(m); got != 0 {
			t.Errorf("Degree %v: %d", m, got)
		}
	}
}

// P8.2

// expectMul holds the product against what must be, either way round.
func expectMul(t *testing.T, a, b, want api.Mono, wantErr api.Errno) {
	t.Helper()
	for range 2 {
		if got, err := Mul(a, b); got != want || err != wantErr {
			t.Errorf("Mul %v %v: %v %d, want %v %d", a, b, got, err, want, wantErr)
		}
		a, b = b, a
	}
}

func expectDiv(t *testing.T, a, b, want api.Mono, wantIs bool) {
	t.Helper()
	if got, is := Div(a, b); got != want || is != wantIs {
		t.Errorf("Div %v %v: %v %t, want %v %t", a, b, got, is, want, wantIs)
	}
}

func expectLcm(t *testing.T, a, b, want api.Mono) {
	t.Helper()
	for range 2 {
		if got := Lcm(a, b); got != want {
			t.Errorf("Lcm %v %v: %v, want %v", a, b, got, want)
		}
		a, b = b, a
	}
}

func expectCoprime(t *testing.T, a, b api.Mono, want bool) {
	t.Helper()
	for range 2 {
		if got := Coprime(a, b); got != want {
			t.Errorf("Coprime %v %v: %t", a, b, got)
		}
		a, b = b, a
	}
}

func TestMul(t *testing.T) {
	expectMul(t, api.Mono{1, 2, 3, 4}, api.Mono{10, 20, 30, 5}, api.Mono{11, 22, 33, 9}, api.OK)
	expectMul(t, api.Mono{1}, api.Mono{0, 0, 0, 1}, api.Mono{1, 0, 0, 1}, api.OK)
	for _, a := range monos() {
		expectMul(t, a, one, a, api.OK)
		for _, b := range monos() {
			want, wantErr := api.Mono{a[0] + b[0], a[1] + b[1], a[2] + b[2], a[3] + b[3]}, api.OK
			if slices.Max(want[:]) > top {
				want, wantErr = one, api.ErrExp
			}
			expectMul(t, a, b, want, wantErr)
		}
	}
}

// At each variable the sum is just MaxExp, and one more.
func TestMulEdges(t *testing.T) {
	for at := range one {
		for n := 0; n <= top; n++ {
			for _, m := range []api.Mono{one, full(1), {20, 19, 18, 17}} {
				a, b := with(m, at, n), with(m, at, top-n)
				expectMul(t, a, b, with(api.Mono{2 * m[0], 2 * m[1], 2 * m[2], 2 * m[3]}, at, top), api.OK)
				if n > 0 {
					expectMul(t, a, with(b, at, top-n+1), one, api.ErrExp)
				}
			}
		}
		expectMul(t, with(full(top), at, 0), with(one, at, top), full(top), api.OK)
		expectMul(t, full(top), with(one, at, 1), one, api.ErrExp)
	}
	expectMul(t, full(top/2), full(top/2), full(top), api.OK)
	expectMul(t, full(top), full(top), one, api.ErrExp)
}

func TestDiv(t *testing.T) {
	expectDiv(t, api.Mono{11, 22, 33, 9}, api.Mono{10, 20, 30, 5}, api.Mono{1, 2, 3, 4}, true)
	expectDiv(t, one, one, one, true)
	for _, a := range monos() {
		expectDiv(t, a, a, one, true)
		expectDiv(t, a, one, a, true)
		expectDiv(t, full(top), a, api.Mono{top - a[0], top - a[1], top - a[2], top - a[3]}, true)
		if a != one {
			expectDiv(t, one, a, one, false)
		}
		for _, b := range monos() {
			want, is := api.Mono{a[0] - b[0], a[1] - b[1], a[2] - b[2], a[3] - b[3]}, true
			if slices.Min(want[:]) < 0 {
				want, is = one, false
			}
			expectDiv(t, a, b, want, is)
		}
	}
}

// At each variable, and at it alone, the first exponent is just the other one, one more, and one less.
func TestDivEdges(t *testing.T) {
	for at := range one {
		for n := 0; n < top; n++ {
			for _, m := range []api.Mono{one, full(1), full(top)} {
				expectDiv(t, with(m, at, n), with(one, at, n), with(m, at, 0), true)
				expectDiv(t, with(m, at, n+1), with(one, at, n), with(m, at, 1), true)
				expectDiv(t, with(m, at, n), with(one, at, n+1), one, false)
				expectDiv(t, with(m, at, n), with(one, at, top), one, false)
			}
		}
	}
}

func TestLcm(t *testing.T) {
	expectLcm(t, api.Mono{3, 0, 1}, api.Mono{1, 2}, api.Mono{3, 2, 1})
	expectLcm(t, api.Mono{top, 0, top, 0}, api.Mono{0, top, 0, top}, full(top))
	for _, a := range monos() {
		expectLcm(t, a, a, a)
		expectLcm(t, a, one, a)
		expectLcm(t, a, full(top), full(top))
		for _, b := range monos() {
			want := a
			for i, exponent := range b {
				if exponent > a[i] {
					want[i] = exponent
				}
			}
			expectLcm(t, a, b, want)
		}
	}
}

func TestCoprime(t *testing.T) {
	for _, a := range monos() {
		expectCoprime(t, a, one, true)
		expectCoprime(t, a, a, a == one)
		for _, b := range monos() {
			want := a[0]*b[0] == 0 && a[1]*b[1] == 0 && a[2]*b[2] == 0 && a[3]*b[3] == 0
			expectCoprime(t, a, b, want)
		}
	}
}

// One variable is in both, each in its turn; or each is in just one of them.
func TestCoprimeEdges(t *testing.T) {
	for at := range one {
		for _, n := range []int{1, 2, top} {
			expectCoprime(t, with(one, at, n), with(one, at, 1), false)
			expectCoprime(t, with(one, at, n), full(1), false)
			expectCoprime(t, with(one, at, n), full(top), false)
			expectCoprime(t, with(one, at, n), with(full(top), at, 0), true)
			expectCoprime(t, with(one, at, n), with(one, (at+1)%len(one), n), true)
		}
	}
	expectCoprime(t, api.Mono{1, 2}, api.Mono{0, 0, 3, 4}, true)
	expectCoprime(t, api.Mono{1, 0, 2}, api.Mono{0, 3, 0, 4}, true)
}

func TestWhatMayNotBe(t *testing.T) {
	some := []api.Mono{one, full(1), full(top), {1, 2, 3, 4}, {0, 0, 0, 1}, {1}}
	for _, wrong := range wrongs() {
		for _, other := range append(some, wrong, with(one, 0, -1), with(one, 3, top+1)) {
			expectMul(t, wrong, other, one, api.ErrArg) // ahead of ErrExp
			expectDiv(t, wrong, other, one, false)
			expectDiv(t, other, wrong, one, false)
			expectLcm(t, wrong, other, one)
			expectCoprime(t, wrong, other, false)
		}
	}
}

// P8.3

// expectCmp holds what was told against what must be; the other way round it is turned.
func expectCmp(t *testing.T, order int, a, b api.Mono, want int) {
	t.Helper()
	if got := Cmp(order, a, b); got != want {
		t.Errorf("Cmp %d %v %v: %d, want %d", order, a, b, got, want)
	}
	if got := Cmp(order, b, a); got != -want {
		t.Errorf("Cmp %d %v %v: %d, want %d", order, b, a, got, -want)
	}
}

// heights are numbers that are as great as m is high, by Lex, Grlex and Grevlex.
func heights(m api.Mono) [3]int {
	const base = top + 1
	number := func(digits [4]int) (n int) {
		for _, d := range digits {
			n = n*base + d
		}
		return n
	}
	degree := (m[0] + m[1] + m[2] + m[3]) * base * base * base * base
	first := number(m)
	last := number([4]int{top - m[3], top - m[2], top - m[1], top - m[0]})
	return [3]int{first, degree + first, degree + last}
}

func TestCmpExample(t *testing.T) {
	expectCmp(t, api.Lex, api.Mono{1}, api.Mono{0, 9}, 1)
}

func TestCmpEdges(t *testing.T) {
	for _, x := range []struct {
		a, b                api.Mono
		lex, grlex, grevlex int
	}{
		// the degrees differ
		{api.Mono{1}, api.Mono{0, 9}, 1, -1, -1},
		{api.Mono{1}, api.Mono{0, 0, 0, top}, 1, -1, -1},
		{api.Mono{1}, api.Mono{0, top, top, top}, 1, -1, -1},
		{api.Mono{2}, api.Mono{1}, 1, 1, 1},
		{api.Mono{0, 0, 0, 2}, api.Mono{0, 0, 0, 1}, 1, 1, 1},
		{api.Mono{3, 0, 0, 1}, api.Mono{3}, 1, 1, 1},
		{api.Mono{0, 0, 0, 1}, one, 1, 1, 1},
		{full(top), api.Mono{top, top, top, top - 1}, 1, 1, 1},
		{api.Mono{0, 3, 3}, api.Mono{1, 1, 1}, -1, 1, 1},
		// they are the same, and the first variable tells, or the last one
		{api.Mono{1}, api.Mono{0, 1}, 1, 1, 1},
		{api.Mono{1}, api.Mono{0, 0, 0, 1}, 1, 1, 1},
		{api.Mono{0, 1}, api.Mono{0, 0, 1}, 1, 1, 1},
		{api.Mono{0, 0, 1}, api.Mono{0, 0, 0, 1}, 1, 1, 1},
		{api.Mono{1, 0, 2}, api.Mono{0, 3}, 1, 1, -1},
		{api.Mono{2, 0, 0, 1}, api.Mono{1, 2}, 1, 1, -1},
		{api.Mono{1, 0, 1}, api.Mono{0, 2}, 1, 1, -1},
		{api.Mono{5, 1, 0, 2}, api.Mono{5, 0, 3}, 1, 1, -1},
		{api.Mono{2, 0, 1, 7}, api.Mono{1, 2, 0, 7}, 1, 1, -1},
		{api.Mono{2, 1, 0, 7}, api.Mono{1, 2, 0, 7}, 1, 1, 1},
		{api.Mono{top, 0, 0, top}, api.Mono{top - 1, top, 1}, 1, 1, -1},
	} {
		expectCmp(t, api.Lex, x.a, x.b, x.lex)
		expectCmp(t, api.Grlex, x.a, x.b, x.grlex)
		expectCmp(t, api.Grevlex, x.a, x.b, x.grevlex)
	}
}

func TestCmpByHeights(t *testing.T) {
	l := append(monos(), grid(0, 1, 2)...)
	for _, a := range l {
		for _, b := range l {
			high, other := heights(a), heights(b)
			for _, order := range allOrders() {
				want := 0
				if high[order] > other[order] {
					want = 1
				} else if high[order] < other[order] {
					want = -1
				}
				if got := Cmp(order, a, b); got != want {
					t.Fatalf("Cmp %d %v %v: %d, want %d", order, a, b, got, want)
				}
			}
		}
	}
}

func TestCmpOfWhatMayNotBe(t *testing.T) {
	for _, order := range append(allOrders(), noOrders()...) {
		for _, wrong := range wrongs() {
			for _, other := range []api.Mono{one, {1}, {0, 0, 0, 1}, full(top), {-1}, {0, 0, 0, top + 1}} {
				expectCmp(t, order, wrong, other, 0)
			}
		}
	}
}

func TestCmpByNoOrder(t *testing.T) {
	for _, order := range noOrders() {
		for _, m := range monos() {
			expectCmp(t, order, m, one, 0)
			expectCmp(t, order, m, full(top), 0)
			expectCmp(t, order, m, api.Mono{1, 2, 3, 4}, 0)
		}
	}
}

// P8.4

func TestJustOneOfThree(t *testing.T) {
	l := append(grid(0, 1, top), scattered(200, top, 2)...)
	for _, order := range allOrders() {
		for _, a := range l {
			for _, b := range l {
				there, back := Cmp(order, a, b), Cmp(order, b, a)
				if there != -back || there < -1 || there > 1 || (there == 0) != (a == b) {
					t.Fatalf("by %d %v and %v: %d, and back %d", order, a, b, there, back)
				}
			}
		}
	}
}

func TestBelowWhatIsBelow(t *testing.T) {
	l := append(grid(0, 1, 2), scattered(30, top, 3)...)
	for _, order := range allOrders() {
		for _, a := range l {
			for _, b := range l {
				if Cmp(order, a, b) != -1 {
					continue
				}
				for _, c := range l {
					if Cmp(order, b, c) == -1 && Cmp(order, a, c) != -1 {
						t.Fatalf("by %d %v is not below %v, but below %v", order, a, c, b)
					}
				}
			}
		}
	}
}

func TestOneIsTheLeast(t *testing.T) {
	for _, order := range allOrders() {
		expectCmp(t, order, one, one, 0)
		for _, m := range append(monos(), grid(0, 1, 2, 3)...) {
			if m != one {
				expectCmp(t, order, one, m, -1)
			}
		}
	}
}

func TestTimesAnyItIsKept(t *testing.T) {
	l := append(grid(0, 1), scattered(60, top/2, 4)...)
	times := append(l, full(top/2), with(one, 0, top/2), with(one, 3, top/2))
	for _, a := range l {
		for _, b := range l {
			for _, m := range times {
				above, errAbove := Mul(a, m)
				below, errBelow := Mul(b, m)
				if errAbove != api.OK || errBelow != api.OK {
					t.Fatalf("Mul %v, %v and %v: %d %d", a, b, m, errAbove, errBelow)
				}
				for _, order := range allOrders() {
					if Cmp(order, above, below) != Cmp(order, a, b) {
						t.Fatalf("by %d %v and %v, times %v", order, a, b, m)
					}
				}
			}
		}
	}
}

// R3 and R5

// Asked again, with all that was handed in as it was, each call tells the same.
func TestNothingIsChanged(t *testing.T) {
	type answers struct {
		may, is, coprime       bool
		product, quotient, lcm api.Mono
		err                    api.Errno
		degree                 int
		orders                 [3]int
	}
	ask := func(a, b api.Mono) (x answers) {
		x.may, x.degree = May(a), Degree(b)
		x.product, x.err = Mul(a, b)
		x.quotient, x.is = Div(a, b)
		x.lcm, x.coprime = Lcm(a, b), Coprime(a, b)
		for _, order := range allOrders() {
			x.orders[order] = Cmp(order, a, b)
		}
		return x
	}
	l := append(grid(0, 1, top), wrongs()...)
	kept := slices.Clone(l)
	var first []answers
	for round := range 2 {
		for i := range l {
			for k := range l {
				if at := i*len(l) + k; round == 0 {
					first = append(first, ask(l[i], l[k]))
				} else if ask(l[i], l[k]) != first[at] {
					t.Fatalf("%v and %v: another answer", l[i], l[k])
				}
			}
		}
		if !slices.Equal(l, kept) {
			t.Fatal("a monomial was changed")
		}
	}
}
