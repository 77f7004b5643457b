package poly

import (
	"fmt"
	"math"
	"math/big"
	"slices"
	"testing"

	"syzygy/api"
)

const (
	top       = api.MaxExp
	mostTerms = api.MaxTerms
)

func allOrders() []int { return []int{api.Lex, api.Grlex, api.Grevlex} }

// noOrders are the numbers of none.
func noOrders() []int { return []int{-1, -2, 3, 4, 255, 256, 1 << 32, math.MaxInt, math.MinInt} }

// height is a number that is as great as m is high by order, worked out by other means than the layers' own.
func height(order int, m api.Mono) int {
	number := func(digits ...int) (n int) {
		for _, d := range digits {
			n = n*(4*top+1) + d
		}
		return n
	}
	degree := m[0] + m[1] + m[2] + m[3]
	switch order {
	case api.Lex:
		return number(m[0], m[1], m[2], m[3])
	case api.Grlex:
		return number(degree, m[0], m[1], m[2], m[3])
	default:
		return number(degree, top-m[3], top-m[2], top-m[1], top-m[0])
	}
}

// Numbers, worked out by other means

func whole(a api.Nat) *big.Int {
	v := new(big.Int)
	for _, limb := range slices.Backward(a) {
		v.Lsh(v, 64).Or(v, new(big.Int).SetUint64(limb))
	}
	return v
}

func row(v *big.Int) api.Nat {
	var a api.Nat
	for left := new(big.Int).Set(v); left.Sign() > 0; left.Rsh(left, 64) {
		a = append(a, new(big.Int).And(left, new(big.Int).SetUint64(math.MaxUint64)).Uint64())
	}
	return a
}

func value(a api.Rat) *big.Rat {
	v := new(big.Rat).SetFrac(whole(a.Num), whole(a.Den))
	if a.Neg {
		v.Neg(v)
	}
	return v
}

// written is the one way to write a number.
func written(v *big.Rat) api.Rat {
	return api.Rat{Neg: v.Sign() < 0, Num: row(new(big.Int).Abs(v.Num())), Den: row(v.Denom())}
}

func frac(n, d int64) api.Rat { return written(big.NewRat(n, d)) }

// most has no room for one more.
func most() api.Rat {
	return api.Rat{Num: slices.Repeat(api.Nat{math.MaxUint64}, api.MaxLimbs), Den: api.Nat{1}}
}

func lessOne(a api.Rat) api.Rat { return written(new(big.Rat).Sub(value(a), big.NewRat(1, 1))) }

func minus(a api.Rat) api.Rat {
	a.Neg = !a.Neg
	return a
}

// inverse is 1 by a.
func inverse(a api.Rat) api.Rat { return api.Rat{Neg: a.Neg, Num: a.Den, Den: a.Num} }

// power is base^k.
func power(base, k int64) api.Nat {
	return row(new(big.Int).Exp(big.NewInt(base), big.NewInt(k), nil))
}

// wrongNumbers may not be, each for its own reason.
func wrongNumbers() []api.Rat {
	unit := api.Nat{1}
	tooLong := append(make(api.Nat, api.MaxLimbs), 1)
	return []api.Rat{
		{}, {Num: unit}, {Neg: true, Num: unit}, // by 0
		{Neg: true, Den: unit}, {Den: api.Nat{2}}, // 0, written otherwise
		{Num: api.Nat{2}, Den: api.Nat{4}}, {Num: api.Nat{3}, Den: api.Nat{3}}, // not in lowest terms
		{Num: api.Nat{0}, Den: unit}, {Num: api.Nat{1, 0}, Den: unit}, {Num: unit, Den: api.Nat{1, 0}}, // not trim
		{Num: tooLong, Den: unit}, {Num: unit, Den: tooLong},
	}
}

// zeros are all the ways of it that may be.
func zeros() []api.Rat {
	return []api.Rat{{Den: api.Nat{1}}, {Num: api.Nat{}, Den: api.Nat{1}}}
}

// Monomials

var one = api.Mono{}

func wrongMonos() []api.Mono {
	var l []api.Mono
	for _, n := range []int{-1, -top, top + 1, 2 * top, 256, 1 << 32, math.MaxInt, math.MinInt} {
		for at := range one {
			for _, m := range []api.Mono{one, {1, 1, 1, 1}, {top, top, top, top}} {
				m[at] = n
				l = append(l, m)
			}
		}
	}
	return append(l, api.Mono{-1, 1}, api.Mono{1, -1}, api.Mono{top + 1, -1})
}

// Terms

func term(c api.Rat, m ...int) api.Term {
	t := api.Term{C: c}
	copy(t.M[:], m)
	return t
}

// of is a term with a whole number.
func of(n int64, m ...int) api.Term { return term(frac(n, 1), m...) }

// wrongTerms have a coefficient, or a monomial, that may not be.
func wrongTerms() []api.Term {
	l := []api.Term{{}, {M: api.Mono{-1}}}
	for _, c := range wrongNumbers() {
		l = append(l, term(c, 1, 2))
	}
	for _, m := range wrongMonos() {
		l = append(l, api.Term{C: frac(2, 1), M: m}, api.Term{C: frac(0, 1), M: m})
	}
	return l
}

// distinct are n terms, none of 0; each monomial is divided by the next one, so they fall by each order.
func distinct(n int) []api.Term {
	l := make([]api.Term, n)
	for i := range l {
		k := n - 1 - i
		l[i] = of(int64(i%7)-9, k/4, (k+1)/4, (k+2)/4, (k+3)/4)
	}
	return l
}

// source tells numbers that hang on its seed alone.
type source uint64

func (s *source) below(n int) int {
	*s = *s*6364136223846793005 + 1442695040888963407
	return int(uint64(*s) >> 33 % uint64(n))
}

// scattered are n terms with small numbers and exponents; some numbers are 0, many monomials are alike.
func scattered(s *source, n, exponent int) []api.Term {
	l := make([]api.Term, n)
	for i := range l {
		l[i].C = frac(int64(s.below(9)-4), int64(s.below(4)+1))
		for k := range l[i].M {
			l[i].M[k] = s.below(exponent + 1)
		}
	}
	return l
}

func shuffled(s *source, l []api.Term) []api.Term {
	l = slices.Clone(l)
	for i := range l {
		k := i + s.below(len(l)-i)
		l[i], l[k] = l[k], l[i]
	}
	return l
}

func backward(l []api.Term) []api.Term {
	l = slices.Clone(l)
	slices.Reverse(l)
	return l
}

// Sums of terms, worked out by other means

type model map[api.Mono]*big.Rat

func (m model) put(at api.Mono, v *big.Rat) {
	if m[at] == nil {
		m[at] = new(big.Rat)
	}
	m[at].Add(m[at], v)
}

func (m model) poly(order int) api.Poly {
	var p api.Poly
	for at, v := range m {
		if v.Sign() != 0 {
			p = append(p, api.Term{C: written(v), M: at})
		}
	}
	slices.SortFunc(p, func(a, b api.Term) int { return height(order, b.M) - height(order, a.M) })
	return p
}

// summed is what Make and Add must tell, whatever room there is.
func summed[L ~[]api.Term](order int, l ...L) api.Poly {
	m := model{}
	for _, t := range slices.Concat(l...) {
		m.put(t.M, value(t.C))
	}
	return m.poly(order)
}

// multiplied is what Mul must tell, whatever room there is.
func multiplied(order int, p, q api.Poly) api.Poly {
	m := model{}
	for _, a := range p {
		for _, b := range q {
			at := a.M
			for i := range at {
				at[i] += b.M[i]
			}
			m.put(at, new(big.Rat).Mul(value(a.C), value(b.C)))
		}
	}
	return m.poly(order)
}

// What is expected

// identical holds polynomials against each other limb by limb, without the package's Same.
func identical(p, q api.Poly) bool {
	return slices.EqualFunc(p, q, func(a, b api.Term) bool {
		return a.M == b.M && a.C.Neg == b.C.Neg && slices.Equal(a.C.Num, b.C.Num) && slices.Equal(a.C.Den, b.C.Den)
	})
}

// told holds an answer against what it must be; and each one may be (P9.5).
func told(t *testing.T, what string, order int, got api.Poly, err api.Errno, want api.Poly) {
	t.Helper()
	if err != api.OK || !identical(got, want) {
		t.Errorf("%s by %d: %v %d, want %v", what, order, got, err, want)
	}
	if !May(order, got) {
		t.Errorf("%s by %d: %v may not be", what, order, got)
	}
}

func refused(t *testing.T, what string, order int, got api.Poly, err, want api.Errno) {
	t.Helper()
	if err != want || len(got) != 0 {
		t.Errorf("%s by %d: %v %d, want nothing and %d", what, order, got, err, want)
	}
}

// toldIfRoom is told, or refused where there are more terms than may be.
func toldIfRoom(t *testing.T, what string, order int, got api.Poly, err api.Errno, want api.Poly) {
	t.Helper()
	if len(want) <= mostTerms {
		told(t, what, order, got, err, want)
	} else {
		refused(t, what, order, got, err, api.ErrTerms)
	}
}

// mays are polynomials that may be by each order, the edges among them.
func mays() []api.Poly {
	return []api.Poly{
		nil, {}, {of(1)}, {of(-7)}, {of(1, 1)}, {of(1, 0, 0, 0, 1)}, {of(-3, top, top, top, top), of(5)},
		{of(1, 2), of(-1, 1), of(1)}, {term(most(), 1, 1), term(minus(most()), 1), term(inverse(most()))},
		{term(frac(-2, 3), 0, 3), term(frac(5, 7), 0, 0, 2)}, distinct(5), distinct(mostTerms - 1), distinct(mostTerms),
	}
}

// mayNots are none by any order.
func mayNots() []api.Poly {
	l := []api.Poly{
		{of(0)}, {of(0, 1)}, {of(1, 1), of(0)}, {of(0, 2), of(1, 1)}, // of 0
		{of(1, 1), of(1, 1)}, {of(1), of(-1)}, {of(1, 1), of(1), of(2)}, // alike
		{of(1), of(1, 1)}, {of(1, 2), of(1), of(1, 1)}, {of(1, 1), of(1), of(1, 2)}, {of(1, 2), of(1, 1), of(1, 2)}, // rising
		distinct(mostTerms + 1), distinct(2 * mostTerms),
	}
	for _, wrong := range wrongTerms() {
		l = append(l, api.Poly{wrong})
	}
	return l
}

// P9.1

func TestMay(t *testing.T) {
	for _, p := range mays() {
		for _, order := range allOrders() {
			if !May(order, p) {
				t.Errorf("May %d %v: false", order, p)
			}
		}
		for _, order := range noOrders() {
			if May(order, p) {
				t.Errorf("May %d %v: true", order, p)
			}
		}
	}
	for _, p := range mayNots() {
		for _, order := range append(allOrders(), noOrders()...) {
			if May(order, p) {
				t.Errorf("May %d %v: true", order, p)
			}
		}
	}
}

func TestMayCountsTerms(t *testing.T) {
	for n := range 2*mostTerms + 1 {
		for _, order := range allOrders() {
			if got := May(order, distinct(n)); got != (n <= mostTerms) {
				t.Errorf("May %d of %d terms: %t", order, n, got)
			}
		}
	}
}

// expectMayNot changes a polynomial that may be, so that it may not.
func expectMayNot(t *testing.T, change func(p api.Poly)) {
	t.Helper()
	p := api.Poly(distinct(6))
	change(p)
	for _, order := range allOrders() {
		if May(order, p) {
			t.Errorf("May %d %v: true", order, p)
		}
	}
}

func TestMayAtEachPlace(t *testing.T) {
	for at := range 6 {
		for _, c := range append(wrongNumbers(), zeros()...) {
			expectMayNot(t, func(p api.Poly) { p[at].C = c })
		}
		for _, m := range wrongMonos() {
			expectMayNot(t, func(p api.Poly) { p[at].M = m })
		}
		for other := range at {
			expectMayNot(t, func(p api.Poly) { p[at].M = p[other].M })
			expectMayNot(t, func(p api.Poly) { p[at], p[other] = p[other], p[at] })
		}
	}
}

func TestMayByEachOrder(t *testing.T) {
	for _, x := range []struct {
		p                   api.Poly
		lex, grlex, grevlex bool
	}{
		{api.Poly{of(1, 1), of(1, 0, 9)}, true, false, false},
		{api.Poly{of(1, 0, 9), of(1, 1)}, false, true, true},
		{api.Poly{of(1, 1, 0, 2), of(1, 0, 3)}, true, true, false},
		{api.Poly{of(1, 0, 3), of(1, 1, 0, 2)}, false, false, true},
		{api.Poly{of(1, 0, 3), of(1, 1, 0, 2), of(1, 2)}, false, false, true},
		{api.Poly{of(1, 2), of(1, 1, 0, 2), of(1, 0, 3)}, true, false, false},
	} {
		for order, want := range []bool{x.lex, x.grlex, x.grevlex} {
			if got := May(order, x.p); got != want {
				t.Errorf("May %d %v: %t", order, x.p, got)
			}
		}
	}
	s := source(1)
	for range 2000 {
		l := scattered(&s, 2, 3)
		l[0].C, l[1].C = frac(-1, 2), frac(3, 1)
		for _, order := range allOrders() {
			if got := May(order, l); got != (height(order, l[0].M) > height(order, l[1].M)) {
				t.Errorf("May %d %v: %t", order, l, got)
			}
		}
	}
}

func TestSame(t *testing.T) {
	l := append(mays(), mayNots()...)
	l = append(l, api.Poly{of(1, 1), of(1)}, api.Poly{of(1), of(1, 1)}, api.Poly{of(1, 1)}, api.Poly{of(1)}, api.Poly{of(-1, 1)})
	for _, p := range l {
		if !Same(p, slices.Clone(p)) {
			t.Errorf("Same %v: false", p)
		}
		for _, q := range l {
			if got := Same(p, q); got != identical(p, q) {
				t.Errorf("Same %v %v: %t", p, q, got)
			}
		}
	}
}

// One thing is not the same, at each place.
func TestSameAtEachPlace(t *testing.T) {
	for at := range 5 {
		for what, change := range map[string]func(p api.Poly) api.Poly{
			"sign":     func(p api.Poly) api.Poly { p[at].C.Neg = !p[at].C.Neg; return p },
			"Num":      func(p api.Poly) api.Poly { p[at].C.Num = api.Nat{71}; return p },
			"Den":      func(p api.Poly) api.Poly { p[at].C.Den = api.Nat{71}; return p },
			"monomial": func(p api.Poly) api.Poly { p[at].M[3]++; return p },
			"fewer":    func(p api.Poly) api.Poly { return slices.Delete(p, at, at+1) },
			"more":     func(p api.Poly) api.Poly { return slices.Insert(p, at, p[at]) },
			"order":    func(p api.Poly) api.Poly { p[at], p[(at+1)%5] = p[(at+1)%5], p[at]; return p },
		} {
			p, q := api.Poly(distinct(5)), change(distinct(5))
			if Same(p, q) || Same(q, p) {
				t.Errorf("Same, but for %s at %d: true", what, at)
			}
		}
	}
	if Same(nil, distinct(1)) || Same(distinct(1), nil) || !Same(nil, api.Poly{}) {
		t.Error("of nothing")
	}
}

// P9.2

func TestMakeExample(t *testing.T) {
	l := []api.Term{of(1, 0, 3), of(2, 1), of(3, 0, 3), of(-2, 1), of(5)}
	for _, order := range allOrders() {
		got, err := Make(order, l)
		told(t, "Make", order, got, err, api.Poly{of(4, 0, 3), of(5)})
	}
}

func TestMakeByEachOrder(t *testing.T) {
	l := []api.Term{of(1), of(1, 2), of(1, 1, 0, 2), of(1, 0, 3)}
	for order, want := range []api.Poly{
		{of(1, 2), of(1, 1, 0, 2), of(1, 0, 3), of(1)},
		{of(1, 1, 0, 2), of(1, 0, 3), of(1, 2), of(1)},
		{of(1, 0, 3), of(1, 1, 0, 2), of(1, 2), of(1)},
	} {
		got, err := Make(order, l)
		told(t, "Make", order, got, err, want)
	}
}

func TestMakeOfScattered(t *testing.T) {
	s := source(2)
	for _, n := range []int{0, 1, 2, 3, 10, 40, 61, 100, 400} {
		for exponent := range 4 {
			l := scattered(&s, n, exponent)
			for _, order := range allOrders() {
				got, err := Make(order, l)
				toldIfRoom(t, "Make", order, got, err, summed(order, l))
			}
		}
	}
}

func TestMakeOfNothing(t *testing.T) {
	apart := []api.Term{of(2, 1), of(3, 0, 1), of(-2, 1), of(-3, 0, 1)}
	for _, l := range [][]api.Term{nil, {}, {of(0)}, {of(0, 1), of(0, 1)}, {of(0, top), of(0)}, {of(1, 1), of(-1, 1)}, apart} {
		for _, order := range allOrders() {
			got, err := Make(order, l)
			told(t, "Make", order, got, err, nil)
		}
	}
}

// A coefficient of 0, and one that becomes 0 on the way, are as if they were not there.
func TestMakeWithoutZeros(t *testing.T) {
	for at := range 6 {
		for _, zero := range zeros() {
			l := distinct(6)
			l[at].C = zero
			for _, order := range allOrders() {
				got, err := Make(order, l)
				told(t, "Make", order, got, err, slices.Delete(distinct(6), at, at+1))
				got, err = Make(order, slices.Insert(distinct(6), at, api.Term{C: zero, M: l[at].M}))
				told(t, "Make", order, got, err, distinct(6))
			}
		}
	}
	for _, order := range allOrders() {
		got, err := Make(order, []api.Term{of(4, 1), of(1), of(-4, 1), of(7, 1), of(0, 1)})
		told(t, "Make", order, got, err, api.Poly{of(7, 1), of(1)})
	}
}

func TestMakeByNoOrder(t *testing.T) {
	for _, order := range noOrders() {
		for _, l := range [][]api.Term{nil, {}, {of(0)}, {of(1, 1)}, {{}}, distinct(mostTerms + 1), {term(most()), of(1)}} {
			got, err := Make(order, l)
			refused(t, "Make", order, got, err, api.ErrArg)
		}
	}
}

// What may not be is told wherever it stands, also beside what would be too great, or too many.
func TestMakeOfWrongTerms(t *testing.T) {
	for _, wrong := range wrongTerms() {
		for _, others := range [][]api.Term{nil, {of(1, 1), of(2), of(0)}, {term(most()), of(1)}, distinct(mostTerms + 1)} {
			for _, at := range []int{0, len(others) / 2, len(others)} {
				l := slices.Insert(slices.Clone(others), at, wrong)
				for _, order := range allOrders() {
					got, err := Make(order, l)
					refused(t, "Make", order, got, err, api.ErrArg)
				}
			}
		}
	}
}

// The sums are made one behind the other: each one on the way needs room.
func TestMakeNeedsRoomOnTheWay(t *testing.T) {
	x, y := most(), inverse(most())
	for i, c := range []struct {
		l    []api.Rat
		want api.Errno
	}{
		{[]api.Rat{x}, api.OK},
		{[]api.Rat{x, frac(1, 1)}, api.ErrBig},
		{[]api.Rat{x, frac(1, 1), frac(-1, 1)}, api.ErrBig},
		{[]api.Rat{x, frac(-1, 1), frac(1, 1)}, api.OK},
		{[]api.Rat{frac(1, 1), frac(-1, 1), x}, api.OK},
		{[]api.Rat{frac(1, 1), x, frac(-1, 1)}, api.ErrBig},
		{[]api.Rat{frac(-1, 1), x, frac(1, 1)}, api.OK},
		{[]api.Rat{x, x, minus(x), minus(x)}, api.ErrBig},
		{[]api.Rat{x, minus(x), x, minus(x)}, api.OK},
		{[]api.Rat{y, frac(-1, 1)}, api.OK},
		{[]api.Rat{y, frac(1, 1)}, api.ErrBig},
		{[]api.Rat{y, frac(-1, 1), frac(1, 2)}, api.ErrBig},
		{[]api.Rat{y, minus(y)}, api.ErrBig}, // 0, but the product of both Dens has no room
	} {
		var l, among []api.Term
		for k, number := range c.l {
			l = append(l, term(number, 1, 1))
			among = append(among, of(int64(k+1), 2), term(number, 1, 1), of(1, 0, 0, 1))
		}
		for _, order := range allOrders() {
			for _, l := range [][]api.Term{l, among} {
				got, err := Make(order, l)
				if c.want == api.OK {
					told(t, "Make", order, got, err, summed(order, l))
				} else {
					refused(t, fmt.Sprint("Make of ", i), order, got, err, c.want)
				}
			}
		}
	}
}

func TestMakeCountsTermsThatAreLeft(t *testing.T) {
	more := distinct(mostTerms + 1)
	s := source(3)
	for _, order := range allOrders() {
		got, err := Make(order, distinct(mostTerms))
		told(t, "Make", order, got, err, distinct(mostTerms))
		got, err = Make(order, backward(slices.Concat(distinct(mostTerms), distinct(mostTerms), distinct(mostTerms))))
		told(t, "Make of more", order, got, err, summed(order, distinct(mostTerms), distinct(mostTerms), distinct(mostTerms)))
		for _, l := range [][]api.Term{more, backward(more), shuffled(&s, more), distinct(mostTerms + 100)} {
			got, err = Make(order, l)
			refused(t, "Make of one more", order, got, err, api.ErrTerms)
		}
		for at := range more {
			taken := api.Term{C: minus(more[at].C), M: more[at].M}
			got, err = Make(order, append(slices.Clone(more), taken))
			told(t, "Make of one that is taken back", order, got, err, slices.Delete(slices.Clone(more), at, at+1))
			less := slices.Clone(more)
			less[at].C = frac(0, 1)
			got, err = Make(order, less)
			told(t, "Make with a 0", order, got, err, slices.Delete(less, at, at+1))
		}
	}
}

// What has no room is told ahead of how many terms are left.
func TestMakeOfTwoErrors(t *testing.T) {
	many := distinct(mostTerms + 1)
	for at := range many {
		l := slices.Clone(many)
		l[at].C = most()
		l = append(l, api.Term{C: frac(1, 1), M: l[at].M})
		for _, order := range allOrders() {
			got, err := Make(order, l)
			refused(t, "Make", order, got, err, api.ErrBig)
		}
	}
}

// P9.3: Add

func TestAddExample(t *testing.T) {
	for _, order := range allOrders() {
		got, err := Add(order, api.Poly{of(1, 1), of(1, 0, 1)}, api.Poly{of(-1, 0, 1)})
		told(t, "Add", order, got, err, api.Poly{of(1, 1)})
	}
}

func TestAddOfNothing(t *testing.T) {
	for _, order := range allOrders() {
		for _, l := range [][]api.Poly{nil, {}, {nil}, {{}}, {nil, {}, nil}} {
			got, err := Add(order, l...)
			told(t, "Add", order, got, err, nil)
		}
		for _, p := range mays() {
			for _, l := range [][]api.Poly{{p}, {p, nil}, {nil, p}} {
				got, err := Add(order, l...)
				told(t, "Add", order, got, err, p)
			}
		}
	}
	for _, order := range noOrders() {
		for _, l := range [][]api.Poly{nil, {}, {nil}, {{of(1)}}, {{of(1, 1)}, {of(0)}}} {
			got, err := Add(order, l...)
			refused(t, "Add", order, got, err, api.ErrArg)
		}
	}
}

// some are polynomials with small numbers and exponents.
func some(t *testing.T, order int, seed uint64, count, terms, exponent int) []api.Poly {
	s := source(seed)
	l := make([]api.Poly, count)
	for i := range l {
		var err api.Errno
		if l[i], err = Make(order, scattered(&s, s.below(terms+1), exponent)); err != api.OK {
			t.Fatal("the case is wrong", err)
		}
	}
	return l
}

func TestAddOfSome(t *testing.T) {
	for _, order := range allOrders() {
		for n := range 12 {
			l := some(t, order, uint64(n), n, 20, 2)
			got, err := Add(order, l...)
			toldIfRoom(t, "Add", order, got, err, summed(order, l...))
		}
		l := some(t, order, 99, 200, 30, 1)
		got, err := Add(order, l...)
		told(t, "Add of many", order, got, err, summed(order, l...))
	}
}

// What may not be is told wherever it stands, also beside what would be too great, or too many.
func TestAddOfWhatMayNotBe(t *testing.T) {
	for _, wrong := range mayNots() {
		for _, others := range [][]api.Poly{nil, {distinct(3), nil}, {{term(most())}, {of(1)}}, {distinct(mostTerms), {of(1, top)}}} {
			for at := range len(others) + 1 {
				l := slices.Insert(slices.Clone(others), at, wrong)
				for _, order := range allOrders() {
					got, err := Add(order, l...)
					refused(t, "Add", order, got, err, api.ErrArg)
				}
			}
		}
	}
}

// By one order these may be, by another one they may not.
func TestAddByEachOrder(t *testing.T) {
	byLex := api.Poly{of(1, 1), of(1, 0, 9)}
	for _, order := range allOrders() {
		for _, l := range [][]api.Poly{{byLex}, {byLex, nil}, {nil, {of(1)}, byLex}} {
			got, err := Add(order, l...)
			if order == api.Lex {
				told(t, "Add", order, got, err, summed(order, l...))
			} else {
				refused(t, "Add", order, got, err, api.ErrArg)
			}
		}
	}
}

func TestAddErrors(t *testing.T) {
	x, up, down := api.Poly{of(2, 2), term(most(), 1)}, api.Poly{of(1, 1)}, api.Poly{of(-1, 1), of(1)}
	many, other := api.Poly(distinct(mostTerms)), api.Poly{of(1, top)}
	for i, c := range []struct {
		l    []api.Poly
		want api.Errno
	}{
		{[]api.Poly{x, up}, api.ErrBig},
		{[]api.Poly{x, up, down}, api.ErrBig},
		{[]api.Poly{x, down, up}, api.OK},
		{[]api.Poly{up, down, x}, api.OK},
		{[]api.Poly{many, other}, api.ErrTerms},
		{[]api.Poly{other, many}, api.ErrTerms},
		{[]api.Poly{many, other, {of(-1, top)}}, api.OK},
		{[]api.Poly{many, other, {term(minus(many[7].C), many[7].M[:]...)}}, api.OK},
		{[]api.Poly{many, other, x, up}, api.ErrBig},
	} {
		for _, order := range allOrders() {
			got, err := Add(order, c.l...)
			if c.want == api.OK {
				told(t, "Add", order, got, err, summed(order, c.l...))
			} else {
				refused(t, fmt.Sprint("Add of ", i), order, got, err, c.want)
			}
		}
	}
}

// P9.3: Times

func TestTimes(t *testing.T) {
	s := source(4)
	for _, order := range allOrders() {
		for _, p := range some(t, order, 5, 60, 40, 2) {
			for _, x := range scattered(&s, 4, top-2) {
				got, err := Times(order, p, x)
				told(t, "Times", order, got, err, multiplied(order, p, api.Poly{x}))
			}
		}
		for _, p := range mays() {
			got, err := Times(order, p, of(1))
			told(t, "Times 1", order, got, err, p)
		}
	}
}

func TestTimesZero(t *testing.T) {
	for _, order := range allOrders() {
		for _, p := range mays() {
			for _, zero := range zeros() {
				for _, m := range []api.Mono{one, {1}, {top, top, top, top}} {
					got, err := Times(order, p, api.Term{C: zero, M: m})
					told(t, "Times", order, got, err, nil)
				}
			}
		}
		for _, x := range []api.Term{of(1), of(1, top, top, top, top), term(most(), 1), of(0)} {
			got, err := Times(order, nil, x)
			told(t, "Times of nothing", order, got, err, nil)
		}
	}
}

func TestTimesOfWhatMayNotBe(t *testing.T) {
	for _, order := range allOrders() {
		for _, wrong := range mayNots() {
			for _, x := range []api.Term{of(1), of(0), of(2, top, top, top, top), term(most(), 1)} {
				got, err := Times(order, wrong, x)
				refused(t, "Times", order, got, err, api.ErrArg)
			}
		}
		for _, p := range mays() {
			for _, wrong := range wrongTerms() {
				got, err := Times(order, p, wrong)
				refused(t, "Times", order, got, err, api.ErrArg)
			}
		}
		got, err := Times(order, api.Poly{of(1, 0, 3), of(1, 1, 0, 2)}, of(2))
		if order == api.Grevlex {
			told(t, "Times", order, got, err, api.Poly{of(2, 0, 3), of(2, 1, 0, 2)})
		} else {
			refused(t, "Times", order, got, err, api.ErrArg)
		}
	}
	for _, order := range noOrders() {
		for _, p := range mays() {
			for _, x := range []api.Term{of(1), of(0), of(2, top), {}} {
				got, err := Times(order, p, x)
				refused(t, "Times", order, got, err, api.ErrArg)
			}
		}
	}
}

// At each variable, and at each place, the exponent is just MaxExp, and one more.
func TestTimesExponents(t *testing.T) {
	for _, order := range allOrders() {
		for variable := range one {
			for n := 3; n <= top; n++ {
				p := make(api.Poly, 4)
				for i := range p {
					p[i] = of(int64(i+1), 1, 1, 1, 1)
					p[i].M[variable] = n - i
				}
				x := of(-2, 1, 2, 3, 4)
				x.M[variable] = top - n
				got, err := Times(order, p, x)
				told(t, "Times", order, got, err, multiplied(order, p, api.Poly{x}))
				x.M[variable]++
				got, err = Times(order, p, x)
				refused(t, "Times", order, got, err, api.ErrExp)
			}
		}
	}
}

func TestTimesNumbers(t *testing.T) {
	huge, tiny := api.Rat{Num: power(2, 256), Den: api.Nat{1}}, api.Rat{Neg: true, Num: api.Nat{1}, Den: power(2, 256)}
	less := api.Rat{Num: power(2, 255), Den: api.Nat{1}}
	for i, c := range []struct {
		p    api.Poly
		c    api.Rat
		want api.Errno
	}{
		{api.Poly{term(huge, 1), of(1)}, less, api.OK},
		{api.Poly{term(huge, 1), of(1)}, huge, api.ErrBig},
		{api.Poly{of(1, 1), term(huge)}, huge, api.ErrBig},
		{api.Poly{of(1, 2), term(less, 1), term(huge)}, minus(huge), api.ErrBig},
		{api.Poly{term(tiny, 1), of(1)}, tiny, api.ErrBig},
		{api.Poly{term(tiny, 1), of(1)}, inverse(less), api.OK},
		{api.Poly{term(huge, 1), of(3)}, tiny, api.OK},
	} {
		for _, order := range allOrders() {
			for _, m := range []api.Mono{one, {top - 2, 0, top}} {
				x := api.Term{C: c.c, M: m}
				got, err := Times(order, c.p, x)
				if c.want == api.OK {
					told(t, "Times", order, got, err, multiplied(order, c.p, api.Poly{x}))
				} else {
					refused(t, fmt.Sprint("Times of ", i), order, got, err, c.want)
				}
			}
		}
	}
}

// The first term that has an error tells it, and of a term with both the coefficient does.
func TestTimesFirstError(t *testing.T) {
	x := term(most(), 1)
	exact, big, far, both := of(1, 1), of(2, 1), of(1, top), of(2, top)
	at := func(p api.Term, y, z int) api.Term {
		p.M[1], p.M[2] = y, z
		return p
	}
	for i, c := range []struct {
		p    api.Poly
		want api.Errno
	}{
		{api.Poly{exact}, api.OK},
		{api.Poly{big}, api.ErrBig},
		{api.Poly{far}, api.ErrExp},
		{api.Poly{both}, api.ErrBig},
		{api.Poly{both, exact}, api.ErrBig},
		{api.Poly{far, big}, api.ErrExp},
		{api.Poly{at(far, 0, 3), at(both, 0, 2), big}, api.ErrExp},
		{api.Poly{at(both, 0, 3), at(far, 0, 2), big}, api.ErrBig},
		{api.Poly{at(exact, top, top), big, term(frac(5, 1))}, api.ErrBig},
	} {
		for _, order := range allOrders() {
			got, err := Times(order, c.p, x)
			if c.want == api.OK {
				told(t, "Times", order, got, err, multiplied(order, c.p, api.Poly{x}))
			} else {
				refused(t, fmt.Sprint("Times of ", i), order, got, err, c.want)
			}
		}
	}
	// by Grlex and Grevlex a term that is too great may stand ahead of one that is too far
	for _, order := range []int{api.Grlex, api.Grevlex} {
		got, err := Times(order, api.Poly{of(2, 1, top, top), of(1, top)}, x)
		refused(t, "Times", order, got, err, api.ErrBig)
	}
}

// P9.3: Mul

func TestMul(t *testing.T) {
	for _, order := range allOrders() {
		got, err := Mul(order, api.Poly{of(1, 1), of(1, 0, 1)}, api.Poly{of(1, 1), of(-1, 0, 1)})
		told(t, "Mul", order, got, err, api.Poly{of(1, 2), of(-1, 0, 2)})
		for _, p := range some(t, order, 6, 20, 12, 2) {
			for _, q := range some(t, order, 7, 20, 12, 2) {
				got, err := Mul(order, p, q)
				toldIfRoom(t, "Mul", order, got, err, multiplied(order, p, q))
			}
		}
	}
}

func TestMulEdges(t *testing.T) {
	for _, order := range allOrders() {
		for _, p := range mays() {
			for _, nothing := range []api.Poly{nil, {}} {
				got, err := Mul(order, p, nothing)
				told(t, "Mul by nothing", order, got, err, nil)
				got, err = Mul(order, nothing, p)
				told(t, "Mul of nothing", order, got, err, nil)
			}
			got, err := Mul(order, p, api.Poly{of(1)})
			told(t, "Mul by 1", order, got, err, p)
			got, err = Mul(order, api.Poly{of(1)}, p)
			told(t, "Mul of 1", order, got, err, p)
		}
	}
}

func TestMulOfWhatMayNotBe(t *testing.T) {
	for _, order := range allOrders() {
		for _, wrong := range mayNots() {
			for _, other := range append(mays(), wrong, api.Poly{of(0)}) {
				got, err := Mul(order, wrong, other)
				refused(t, "Mul", order, got, err, api.ErrArg)
				got, err = Mul(order, other, wrong)
				refused(t, "Mul", order, got, err, api.ErrArg)
			}
		}
	}
	for _, order := range noOrders() {
		for _, p := range mays() {
			for _, q := range []api.Poly{nil, {}, {of(1)}, p} {
				got, err := Mul(order, p, q)
				refused(t, "Mul", order, got, err, api.ErrArg)
			}
		}
	}
}

// rows are n powers of x, and k of x times y, from 1 on.
func rows(order, n, k int) api.Poly {
	m := model{}
	for i := range n {
		m.put(api.Mono{i}, big.NewRat(1, 1))
	}
	for i := range k {
		m.put(api.Mono{i, 1}, big.NewRat(1, 1))
	}
	return m.poly(order)
}

// Just MaxTerms terms are left, and one more; or less, as most of them go.
func TestMulTerms(t *testing.T) {
	for _, order := range allOrders() {
		up, down := api.Poly{of(1, 1), of(1)}, api.Poly{of(1, 1), of(-1)}
		for _, c := range []struct {
			p, q api.Poly
			left int
		}{
			{rows(order, 30, 28), up, mostTerms}, {rows(order, 30, 29), up, mostTerms + 1},
			{rows(order, 30, 30), down, 4}, {rows(order, 12, 0), api.Poly{of(1, 0, 5), of(1, 0, 4), of(2, 0, 3), of(3, 0, 2), of(1)}, mostTerms},
			{rows(order, 30, 30), api.Poly{of(1, 0, 0, 1), of(1)}, 2 * mostTerms}, {distinct(mostTerms), distinct(mostTerms), 290},
		} {
			if n := len(multiplied(order, c.p, c.q)); n != c.left {
				t.Fatal("the case is wrong", n, c.left)
			}
			got, err := Mul(order, c.p, c.q)
			toldIfRoom(t, "Mul", order, got, err, multiplied(order, c.p, c.q))
			got, err = Mul(order, c.q, c.p)
			toldIfRoom(t, "Mul", order, got, err, multiplied(order, c.p, c.q))
		}
	}
}

// Errors of Times are told ahead of those of Make; of these the first one's, term by term of q.
func TestMulFirstError(t *testing.T) {
	x := most()
	for i, c := range []struct {
		p, q api.Poly
		want api.Errno
	}{
		{api.Poly{of(1, top)}, api.Poly{of(1, 1)}, api.ErrExp},
		{api.Poly{of(2)}, api.Poly{term(x)}, api.ErrBig},
		{api.Poly{of(2, top)}, api.Poly{term(x, 1)}, api.ErrBig},
		// q's first term has one error, its second term the other one
		{api.Poly{of(2, 0, top)}, api.Poly{of(1, 1, 1), term(x)}, api.ErrExp},
		{api.Poly{of(2, 0, top)}, api.Poly{term(x, 1), of(1, 0, 1)}, api.ErrBig},
		// p's second term by q's first one is looked at ahead of p's first one by q's second one
		{api.Poly{of(1, 1, top), of(2)}, api.Poly{term(x, 1), of(1, 0, 1)}, api.ErrBig},
		{api.Poly{of(2, 1), of(1, 0, top)}, api.Poly{of(1, 1, 1), term(x)}, api.ErrExp},
		// both of x*y have no room together, but z^40 by z has none by itself
		{api.Poly{term(x, 1), of(1, 0, 1), of(1, 0, 0, top)}, api.Poly{of(1, 1), of(1, 0, 1), of(1, 0, 0, 1)}, api.ErrExp},
		{api.Poly{term(x, 1), of(1, 0, 1)}, api.Poly{of(1, 1), of(1, 0, 1)}, api.ErrBig},
		// more terms than may be, and an error of Times behind them
		{slices.Concat(rows(api.Lex, 30, 30)[:59], api.Poly{of(2)}), api.Poly{of(1, 1), of(1, 0, 1), term(x)}, api.ErrBig},
	} {
		p, err := Make(api.Lex, c.p)
		q, errQ := Make(api.Lex, c.q)
		if err != api.OK || errQ != api.OK || !identical(p, c.p) || !identical(q, c.q) {
			t.Fatal("the case is wrong", i)
		}
		got, err := Mul(api.Lex, p, q)
		refused(t, fmt.Sprint("Mul of ", i), api.Lex, got, err, c.want)
	}
}

// The products are put together as q's terms come, not as p's.
func TestMulNeedsRoomOnTheWay(t *testing.T) {
	p := api.Poly{of(1, 2), of(1, 1), of(1)}
	kept := api.Poly{term(most(), 2), of(-1, 1), of(1)} // of x^2: most, less 1, and 1
	for _, order := range allOrders() {
		got, err := Mul(order, p, kept)
		told(t, "Mul", order, got, err, api.Poly{term(most(), 4), term(lessOne(most()), 3), term(most(), 2), of(1)})
		got, err = Mul(order, api.Poly{of(-1, 2), of(1, 1), of(1)}, api.Poly{term(most(), 2), of(1, 1), of(1)}) // of x^2: most, and 1
		refused(t, "Mul", order, got, err, api.ErrBig)
		got, err = Mul(order, api.Poly{term(most(), 2), of(1, 1), of(1)}, api.Poly{of(-1, 2), of(1, 1), of(1)}) // of x^2: less 1, 1, and most; of x^3: most, less 1
		told(t, "Mul", order, got, err, multiplied(order, api.Poly{term(most(), 2), of(1, 1), of(1)}, api.Poly{of(-1, 2), of(1, 1), of(1)}))
	}
}

// P9.4

func TestMonic(t *testing.T) {
	for _, order := range allOrders() {
		for _, p := range []api.Poly{nil, {}} {
			got, err := Monic(order, p)
			told(t, "Monic", order, got, err, nil)
		}
		for _, c := range []struct{ p, want api.Poly }{
			{api.Poly{of(-2, 1), of(1)}, api.Poly{of(1, 1), term(frac(-1, 2))}},
			{api.Poly{of(-7)}, api.Poly{of(1)}},
			{api.Poly{of(1, 1), of(-3)}, api.Poly{of(1, 1), of(-3)}},
			{api.Poly{of(-1, top, top, top, top), of(-3, 1), of(4)}, api.Poly{of(1, top, top, top, top), of(3, 1), of(-4)}},
			{api.Poly{term(frac(2, 3), 2), term(frac(4, 9), 1), of(5)}, api.Poly{of(1, 2), term(frac(2, 3), 1), term(frac(15, 2))}},
			{api.Poly{term(minus(most()), 1), of(1)}, api.Poly{of(1, 1), term(minus(inverse(most())))}},
		} {
			got, err := Monic(order, c.p)
			told(t, "Monic", order, got, err, c.want)
			got, err = Monic(order, got)
			told(t, "Monic once more", order, got, err, c.want)
		}
		for _, p := range some(t, order, 8, 60, 50, 2) {
			got, err := Monic(order, p)
			if len(p) == 0 {
				told(t, "Monic", order, got, err, nil)
			} else {
				told(t, "Monic", order, got, err, multiplied(order, p, api.Poly{term(inverse(p[0].C))}))
			}
		}
	}
}

func TestMonicErrors(t *testing.T) {
	mixed := api.Rat{Num: power(2, 300), Den: power(3, 200)}
	for _, order := range allOrders() {
		for _, p := range []api.Poly{
			{term(inverse(most()), 1), of(2)}, {term(most(), 1), of(1, 0, 1), term(frac(1, 2))},
			{term(mixed)}, {term(minus(mixed), 1), of(1)}, // by itself it is 1, but not on the way
		} {
			got, err := Monic(order, p)
			refused(t, "Monic", order, got, err, api.ErrBig)
		}
		for _, wrong := range mayNots() {
			got, err := Monic(order, wrong)
			refused(t, "Monic", order, got, err, api.ErrArg)
		}
	}
	for _, order := range noOrders() {
		for _, p := range mays() {
			got, err := Monic(order, p)
			refused(t, "Monic", order, got, err, api.ErrArg)
		}
	}
}

// P9.5

// Whatever order the terms come in, it is one polynomial.
func TestOneWayToWriteIt(t *testing.T) {
	s := source(9)
	for _, order := range allOrders() {
		for _, n := range []int{1, 2, 5, 30, 60, 300} {
			l := scattered(&s, n, 1)
			want := summed(order, l)
			for range 20 {
				l = shuffled(&s, l)
				got, err := Make(order, l)
				told(t, "Make", order, got, err, want)
			}
		}
	}
}

// However a polynomial came about, it is the same one.
func TestManyWaysToOne(t *testing.T) {
	call := func(p api.Poly, err api.Errno) api.Poly {
		t.Helper()
		if err != api.OK {
			t.Error(err)
		}
		return p
	}
	for _, order := range allOrders() {
		l := some(t, order, 10, 30, 5, 1)
		for i, p := range l {
			q := l[(i+1)%len(l)]
			minusQ := call(Times(order, q, of(-1)))
			sum, less := call(Add(order, p, q)), call(Add(order, p, minusQ))
			if !Same(call(Add(order, sum, minusQ)), p) || !Same(call(Add(order, q, p)), sum) {
				t.Error("Add", order, p, q)
			}
			squares := call(Add(order, call(Mul(order, p, p)), call(Mul(order, minusQ, q))))
			if !Same(call(Mul(order, sum, less)), squares) || !Same(call(Mul(order, less, sum)), squares) {
				t.Error("Mul", order, p, q)
			}
			if len(call(Add(order, p, call(Times(order, p, of(-1)))))) != 0 {
				t.Error("less itself", order, p)
			}
			if !Same(call(Monic(order, call(Times(order, p, term(frac(-5, 3), 2))))), call(Times(order, call(Monic(order, p)), of(1, 2)))) {
				t.Error("Monic", order, p)
			}
		}
	}
}

// R3 and R5

// guarded is a copy of l with terms behind its length, and limbs behind those of its rows.
func guarded(l []api.Term) []api.Term {
	behind := func(a api.Nat) api.Nat { return slices.Concat(a, api.Nat{11, 12})[:len(a)] }
	copied := slices.Concat(l, []api.Term{of(7, 1), of(8)})
	for i, t := range copied {
		copied[i].C.Num, copied[i].C.Den = behind(t.C.Num), behind(t.C.Den)
	}
	return copied[:len(l)]
}

// seen is all of what was guarded, what lies behind the lengths too.
func seen(l []api.Term) string {
	text := ""
	for _, t := range l[:len(l)+2] {
		text += fmt.Sprint(t, t.C.Num[:len(t.C.Num)+2], t.C.Den[:len(t.C.Den)+2])
	}
	return text
}

// everyCall makes each call of the chapter with these.
func everyCall(order int, p, q api.Poly) []api.Poly {
	May(order, p)
	Same(p, q)
	made, _ := Make(order, p)
	both := []api.Poly{p, q, p}
	sum, _ := Add(order, both[:2]...)
	if !identical(both[0], p) || !identical(both[1], q) || !identical(both[2], p) {
		panic("Add changed its list")
	}
	alone, _ := Add(order, p)
	product, _ := Mul(order, p, q)
	monic, _ := Monic(order, p)
	l := []api.Poly{made, sum, alone, product, monic}
	for _, t := range q {
		times, _ := Times(order, p, t)
		l = append(l, times)
	}
	return l
}

func everyPoly() []api.Poly {
	s := source(11)
	l := append(mays(), mayNots()...)
	return append(l, scattered(&s, 5, 1), scattered(&s, 90, 1), scattered(&s, 90, 3), backward(distinct(mostTerms)))
}

func TestNothingHandedInIsChanged(t *testing.T) {
	others := []api.Poly{nil, {of(1)}, {of(3, 1), of(-1)}, distinct(5), {term(most(), 1)}}
	for _, order := range allOrders() {
		for _, p := range everyPoly() {
			for _, q := range others {
				heldP, heldQ := guarded(p), guarded(q)
				everyCall(order, heldP, heldQ)
				everyCall(order, heldQ, heldP)
				everyCall(order, heldP, heldP)
				if seen(heldP) != seen(guarded(p)) || seen(heldQ) != seen(guarded(q)) {
					t.Fatalf("changed %v %v", p, q)
				}
			}
		}
	}
}

// The same arguments are answered the same, whatever was asked in between.
func TestOneAnswer(t *testing.T) {
	for _, order := range allOrders() {
		for _, p := range everyPoly() {
			q := api.Poly{of(3, 1), of(-1)}
			first := everyCall(order, p, q)
			for range 3 {
				everyCall((order+1)%3, q, p)
				if !slices.EqualFunc(everyCall(order, p, q), first, identical) {
					t.Fatalf("by %d: %v", order, p)
				}
			}
		}
	}
}
