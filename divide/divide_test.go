package divide

import (
	"fmt"
	"math"
	"math/big"
	"slices"
	"strings"
	"testing"

	"syzygy/api"
	"syzygy/parse"
)

const (
	top       = api.MaxExp
	mostTerms = api.MaxTerms
	mostPolys = api.MaxBasis
	mostMoves = api.MaxMoves
	mostBits  = 64 * api.MaxLimbs
)

func allOrders() []int { return []int{api.Lex, api.Grlex, api.Grevlex} }

// noOrders are the numbers of none.
func noOrders() []int { return []int{-1, -2, 3, 4, 255, 256, 1 << 32, math.MaxInt, math.MinInt} }

// height is a number that is as great as m is high by order, worked out by other means than the layers' own.
func height(order int, m api.Mono) int {
	number := func(digits ...int) (n int) {
		for _, d := range digits {
			n = n*(4*top+1) + d
		}
		return n
	}
	degree := m[0] + m[1] + m[2] + m[3]
	switch order {
	case api.Lex:
		return number(m[0], m[1], m[2], m[3])
	case api.Grlex:
		return number(degree, m[0], m[1], m[2], m[3])
	default:
		return number(degree, top-m[3], top-m[2], top-m[1], top-m[0])
	}
}

// Numbers, worked out by other means

func whole(a api.Nat) *big.Int {
	v := new(big.Int)
	for _, limb := range slices.Backward(a) {
		v.Lsh(v, 64).Or(v, new(big.Int).SetUint64(limb))
	}
	return v
}

func row(v *big.Int) api.Nat {
	var a api.Nat
	for left := new(big.Int).Set(v); left.Sign() > 0; left.Rsh(left, 64) {
		a = append(a, new(big.Int).And(left, new(big.Int).SetUint64(math.MaxUint64)).Uint64())
	}
	return a
}

func value(a api.Rat) *big.Rat {
	v := new(big.Rat).SetFrac(whole(a.Num), whole(a.Den))
	if a.Neg {
		v.Neg(v)
	}
	return v
}

// written is the one way to write a number.
func written(v *big.Rat) api.Rat {
	return api.Rat{Neg: v.Sign() < 0, Num: row(new(big.Int).Abs(v.Num())), Den: row(v.Denom())}
}

// power is base^k, also of k below 0.
func power(base, k int64) *big.Rat {
	v := new(big.Rat).SetInt(new(big.Int).Exp(big.NewInt(base), big.NewInt(max(k, -k)), nil))
	if k < 0 {
		v.Inv(v)
	}
	return v
}

func product(a, b *big.Rat) *big.Rat { return new(big.Rat).Mul(a, b) }
func sum(a, b *big.Rat) *big.Rat     { return new(big.Rat).Add(a, b) }
func minus(a *big.Rat) *big.Rat      { return new(big.Rat).Neg(a) }
func inverse(a *big.Rat) *big.Rat    { return new(big.Rat).Inv(a) }

// most has no room for one more.
func most() *big.Rat { return sum(power(2, mostBits), big.NewRat(-1, 1)) }

// Monomials and polynomials, worked out by other means

// times is a times b, whatever room there is.
func times(a, b api.Mono) api.Mono {
	for i := range a {
		a[i] += b[i]
	}
	return a
}

// by is a by b, and whether b divides it.
func by(a, b api.Mono) (api.Mono, bool) {
	for i := range a {
		a[i] -= b[i]
	}
	return a, slices.Min(a[:]) >= 0
}

func term(v *big.Rat, m ...int) api.Term {
	t := api.Term{C: written(v)}
	copy(t.M[:], m)
	return t
}

// of is a term with a whole number.
func of(n int64, m ...int) api.Term { return term(big.NewRat(n, 1), m...) }

// model is a sum of terms, none of 0.
type model map[api.Mono]*big.Rat

func modelOf(l []api.Term) model {
	m := model{}
	for _, t := range l {
		m.put(t.M, value(t.C))
	}
	return m
}

func (m model) put(at api.Mono, v *big.Rat) {
	if before := m[at]; before != nil {
		v = sum(before, v)
	}
	m[at] = v
	if v.Sign() == 0 {
		delete(m, at)
	}
}

func (m model) poly(order int) api.Poly {
	var p api.Poly
	for at, v := range m {
		p = append(p, api.Term{C: written(v), M: at})
	}
	slices.SortFunc(p, func(a, b api.Term) int { return height(order, b.M) - height(order, a.M) })
	return p
}

// made is the polynomial of terms that come in any order.
func made(order int, l ...api.Term) api.Poly { return modelOf(l).poly(order) }

// with is p and some terms more.
func with(order int, p api.Poly, l ...api.Term) api.Poly { return made(order, slices.Concat(p, l)...) }

func text(order int, s string) api.Poly {
	p, err := parse.Parse(order, s)
	if err != api.OK {
		panic(s)
	}
	return p
}

func texts(order int, s string) []api.Poly {
	var l []api.Poly
	for part := range strings.SplitSeq(s, ";") {
		if part != "" {
			l = append(l, text(order, part))
		}
	}
	return l
}

// identical holds polynomials against each other limb by limb.
func identical(p, q api.Poly) bool {
	return slices.EqualFunc(p, q, func(a, b api.Term) bool {
		return a.M == b.M && a.C.Neg == b.C.Neg && slices.Equal(a.C.Num, b.C.Num) && slices.Equal(a.C.Den, b.C.Den)
	})
}

func allIdentical(a, b []api.Poly) bool { return slices.EqualFunc(a, b, identical) }

func shown(l ...api.Poly) string {
	s := make([]string, len(l))
	for i, p := range l {
		if s[i] = parse.Print(p); s[i] == "" {
			s[i] = fmt.Sprint(p)
		}
	}
	return "(" + strings.Join(s, "; ") + ")"
}

func question(order int, p api.Poly, l []api.Poly) string {
	return fmt.Sprint(order, ": ", shown(p), " by ", shown(l...))
}

// What is expected

// split is what Split tells. Rest must tell the same (P12.2), and both what follows (P12.3), or nothing beside an error.
func split(t *testing.T, order int, p api.Poly, l []api.Poly) ([]api.Poly, api.Poly, api.Errno) {
	t.Helper()
	quotients, rest, err := Split(order, p, l)
	alone, errAlone := Rest(order, p, l)
	if !identical(rest, alone) || err != errAlone {
		t.Errorf("%s: Split %s %d, Rest %s %d", question(order, p, l), shown(rest), err, shown(alone), errAlone)
	}
	if err == api.OK {
		expectWhatFollows(t, order, p, l, quotients, rest)
	} else if len(quotients) > 0 || len(rest) > 0 {
		t.Errorf("%s: %s and %s beside error %d", question(order, p, l), shown(quotients...), shown(rest), err)
	}
	return quotients, rest, err
}

// expectWhatFollows holds P12.3 of an answer, and that all of it may be.
func expectWhatFollows(t *testing.T, order int, p api.Poly, l, quotients []api.Poly, rest api.Poly) {
	t.Helper()
	if len(quotients) != len(l) {
		t.Fatalf("%s: %d quotients", question(order, p, l), len(quotients))
	}
	all := modelOf(rest)
	for i, q := range quotients {
		for _, a := range q {
			for _, b := range l[i] {
				all.put(times(a.M, b.M), product(value(a.C), value(b.C)))
			}
		}
		if len(q) > 0 && height(order, times(q[0].M, l[i][0].M)) > height(order, p[0].M) {
			t.Errorf("%s: the lead of %s times %s is above", question(order, p, l), shown(q), shown(l[i]))
		}
	}
	if !identical(all.poly(order), p) {
		t.Errorf("%s: the sum is %s", question(order, p, l), shown(all.poly(order)))
	}
	for _, a := range rest {
		if i := firstThatDivides(a.M, l); i >= 0 {
			t.Errorf("%s: %s divides a term of the rest %s", question(order, p, l), shown(l[i]), shown(rest))
		}
	}
	for _, q := range append([]api.Poly{rest}, quotients...) {
		if len(q) > mostTerms || !identical(q, made(order, q...)) {
			t.Errorf("%s: %s may not be", question(order, p, l), shown(q))
		}
	}
}

// firstThatDivides is the place of the first one whose lead divides at, or below 0.
func firstThatDivides(at api.Mono, l []api.Poly) int {
	return slices.IndexFunc(l, func(q api.Poly) bool {
		if len(q) == 0 {
			return false
		}
		_, divides := by(at, q[0].M)
		return divides
	})
}

func expect(t *testing.T, order int, p api.Poly, l, quotients []api.Poly, rest api.Poly) {
	t.Helper()
	gotQuotients, gotRest, err := split(t, order, p, l)
	if err != api.OK || !allIdentical(gotQuotients, quotients) || !identical(gotRest, rest) {
		t.Errorf("%s: %s and %s, %d, want %s and %s", question(order, p, l), shown(gotQuotients...), shown(gotRest), err, shown(quotients...), shown(rest))
	}
}

func expectTexts(t *testing.T, order int, p, l, quotients, rest string) {
	t.Helper()
	expect(t, order, text(order, p), texts(order, l), texts(order, quotients), text(order, rest))
}

// expectEnd expects an error, or OK with what follows.
func expectEnd(t *testing.T, order int, p api.Poly, l []api.Poly, want api.Errno) {
	t.Helper()
	if quotients, rest, err := split(t, order, p, l); err != want {
		t.Errorf("%s: %s and %s, %d, want %d", question(order, p, l), shown(quotients...), shown(rest), err, want)
	}
}

// P12.1: what it tells

func TestSplit(t *testing.T) {
	for _, order := range allOrders() {
		for _, x := range []struct{ p, l, quotients, rest string }{
			{"x", "x", "1", "0"}, {"-3/4*x^2*w", "5*x", "-3/20*x*w", "0"}, {"7", "2", "7/2", "0"},
			{"x^2 - y^2", "x + y", "x - y", "0"}, {"x^2 - y^2", "x - y", "x + y", "0"}, {"x^40 - 1", "x^20 - 1", "x^20 + 1", "0"},
			{"2*x^2 + 3*x + 5", "3*x - 2", "2/3*x + 13/9", "71/9"}, {"x + y + 1", "-2", "-1/2*x - 1/2*y - 1/2", "0"},
			{"x^2*y + x*y^2 + y^2", "x*y - 1;y^2 - 1", "x + y;1", "x + y + 1"},
			{"x^2*y^2 + z", "x*y - z;y - w", "x*y + z;0", "z^2 + z"},
			{"x*y*z*w", "x - 1;y - 1;z - 1;w - 1", "y*z*w;z*w;w;1", "1"},
		} {
			expectTexts(t, order, x.p, x.l, x.quotients, x.rest)
		}
	}
	expectTexts(t, api.Lex, "x^2 + y", "x - y", "x + y", "y^2 + y") // the chapter's
}

// The leads are others by another order, and so is what comes of it.
func TestSplitByOrder(t *testing.T) {
	for order, x := range []struct{ quotients, rest string }{{"1", "y^3 + y^2"}, {"0", "x + y^2"}, {"0", "x + y^2"}} {
		expectTexts(t, order, "x + y^2", "x - y^3", x.quotients, x.rest)
	}
	for order, x := range []struct{ quotients, rest string }{{"1", "2*y^3"}, {"1", "2*y^3"}, {"-1", "2*x*z^2"}} {
		expectTexts(t, order, "x*z^2 + y^3", "x*z^2 - y^3", x.quotients, x.rest)
	}
}

func TestSplitNothing(t *testing.T) {
	for _, order := range allOrders() {
		for _, p := range []api.Poly{nil, {}} {
			for _, l := range [][]api.Poly{nil, {}, {nil}, {{}, nil, {}}, {{of(1)}}, texts(order, "x - 1;0;y^2"), make([]api.Poly, mostPolys)} {
				expect(t, order, p, l, make([]api.Poly, len(l)), nil)
			}
		}
	}
}

// mays are polynomials that may be by each order.
func mays() []api.Poly {
	full := make(api.Poly, mostTerms) // each monomial is divided by the next one
	for i := range full {
		k := mostTerms - 1 - i
		full[i] = of(int64(i%7)-9, k/4, (k+1)/4, (k+2)/4, (k+3)/4)
	}
	return []api.Poly{
		{of(1)}, {of(-7)}, {of(1, 0, 0, 0, 1)}, {of(2, top, top, top, top), of(5)}, {of(1, 2), of(-1, 1), of(1)},
		{term(most(), 1, 1), term(minus(most()), 1), term(inverse(most()))}, {term(big.NewRat(-2, 3), 0, 3), term(big.NewRat(5, 7), 0, 0, 2)},
		full[:5], full[mostTerms-3:], full[1:], full,
	}
}

// By nothing, and by some that are all 0, all is left.
func TestSplitByNothing(t *testing.T) {
	for _, order := range allOrders() {
		for _, p := range mays() {
			for _, l := range [][]api.Poly{nil, {}, {nil}, {{}}, {nil, {}, nil}, make([]api.Poly, mostPolys)} {
				expect(t, order, p, l, make([]api.Poly, len(l)), p)
			}
		}
	}
}

// Those that are 0 have a quotient, which is nothing; the others keep their places.
func TestSplitBySomeThatAre0(t *testing.T) {
	for _, order := range allOrders() {
		for _, x := range []struct{ l, quotients string }{
			{"x - 1;y - 2", "y;1"}, {"0;x - 1;y - 2", "0;y;1"}, {"x - 1;0;y - 2", "y;0;1"},
			{"x - 1;y - 2;0", "y;1;0"}, {"0;0;x - 1;0;0;0;y - 2;0", "0;0;y;0;0;0;1;0"},
		} {
			expectTexts(t, order, "x*y + z", x.l, x.quotients, "z + 2")
		}
		p, l := text(order, "x*y + z"), make([]api.Poly, mostPolys)
		l[7], l[mostPolys-1] = text(order, "y - 2"), text(order, "x - 1")
		quotients := make([]api.Poly, mostPolys)
		quotients[7], quotients[mostPolys-1] = text(order, "x"), text(order, "2")
		expect(t, order, p, l, quotients, text(order, "z + 2"))
	}
}

// Of some whose leads divide the first one is taken, though another one be greater, less, or nearer.
func TestSplitByTheFirst(t *testing.T) {
	for _, order := range allOrders() {
		for _, x := range []struct{ p, l, quotients, rest string }{
			{"6*x", "2*x - 4;x", "3;0", "12"}, {"6*x", "x;2*x - 4", "6;0", "0"}, {"6*x", "2*x - 4;2*x - 4", "3;0", "12"},
			{"x^2", "x - 1;x^2 - 2", "x + 1;0", "1"}, {"x^2", "x^2 - 2;x - 1", "1;0", "2"},
			{"x*y", "y - z;x - w;x*y - 1", "x;z;0", "z*w"}, {"x*y", "x - w;y - z;x*y - 1", "y;w;0", "z*w"}, {"x*y", "x*y - 1;x - w;y - z", "1;0;0", "1"},
			{"x^3 + x", "x^2 - x;x - 3;1", "x + 1;2;6", "0"}, {"x^3", "x^4;x^3*y;x^2 - 5;x", "0;0;x;5", "0"},
		} {
			expectTexts(t, order, x.p, x.l, x.quotients, x.rest)
		}
		// the search begins anew in each step: the second one's left-overs go to the first one
		expectTexts(t, order, "x^2*y^2", "y^2 - 1;x^2 - y^2", "x^2 + 1;1", "1")
		expectTexts(t, order, "x^2", "y^2 - 1;x^2 - y^2 - x;x - 5", "1;1;1", "6")
	}
}

// A lead that none divides goes to the rest, and what is behind it is divided.
func TestSplitWhatIsNotDivided(t *testing.T) {
	for _, order := range allOrders() {
		for _, x := range []struct{ p, l, quotients, rest string }{
			{"x", "y", "0", "x"}, {"x", "x^2", "0", "x"}, {"x*y", "x^2;y^2;z;w - 1", "0;0;0;0", "x*y"}, {"1", "x - 1", "0", "1"},
			{"x^3 + y", "y - 2", "1", "x^3 + 2"}, {"x^3 + x^2*y + y", "y - 2", "x^2 + 1", "x^3 + 2*x^2 + 2"},
			{"x^5 + x^4*y + x^3 + x^2*y + x + y", "y - 2", "x^4 + x^2 + 1", "x^5 + 2*x^4 + x^3 + 2*x^2 + x + 2"},
			{"x^3*y^2 + 1", "x^4;x^3*y^3;x^3*y^2*z", "0;0;0", "x^3*y^2 + 1"},
			{"x^2 + x", "x*y - 1;x^2*y", "0;0", "x^2 + x"}, // it is the lead that must divide, not a term behind it
			{"x^2 + y", "x^3 - x^2 - y", "0", "x^2 + y"},
		} {
			expectTexts(t, order, x.p, x.l, x.quotients, x.rest)
		}
	}
}

// What comes up in a move may meet what is left, or take it away.
func TestSplitLikeTerms(t *testing.T) {
	for _, order := range allOrders() {
		for _, x := range []struct{ p, l, quotients, rest string }{
			{"x + 3*y", "x + 3*y", "1", "0"}, {"x^2 + 3*x*y + y", "x + 3*y", "x", "y"}, {"x + 3*y", "x + 2*y", "1", "y"},
			{"x^2 + x", "x^2 + x;x", "1;0", "0"}, {"x^2 + x", "x^2 - 2*x;x", "1;3", "0"}, {"1/3*x + 1/6", "x - 1/2", "1/3", "1/3"},
		} {
			expectTexts(t, order, x.p, x.l, x.quotients, x.rest)
		}
	}
}

// P12.1: ErrArg

// wrongPolys are none by any order.
func wrongPolys() []api.Poly {
	unit, tooLong := api.Nat{1}, append(make(api.Nat, api.MaxLimbs), 1)
	l := []api.Poly{
		{{}}, {of(0)}, {of(0, 1)}, {of(1, 1), of(0)}, {of(1, 1), of(1, 1)}, {of(1), of(1, 1)}, {of(1, 2), of(1), of(1, 1)},
		{{C: api.Rat{Num: unit}}}, {{C: api.Rat{Neg: true, Den: unit}}}, {{C: api.Rat{Num: api.Nat{2}, Den: api.Nat{2}}}},
		{{C: api.Rat{Num: api.Nat{1, 0}, Den: unit}}}, {{C: api.Rat{Num: tooLong, Den: unit}}}, {{C: api.Rat{Num: unit, Den: tooLong}}},
		append(api.Poly{of(1, 15, 15, 15, 15)}, mays()[len(mays())-1]...), // one more than MaxTerms, which fall
	}
	for _, n := range []int{-1, top + 1, 256, math.MaxInt, math.MinInt} {
		for at := range api.MaxVars {
			x := of(1, 1, 1, 1, 1)
			x.M[at] = n
			l = append(l, api.Poly{x}, api.Poly{x, of(1)})
		}
	}
	return l
}

func TestWrongPolynomials(t *testing.T) {
	for _, order := range allOrders() {
		x, y := text(order, "x"), text(order, "y - 1")
		for _, wrong := range wrongPolys() {
			for _, l := range [][]api.Poly{nil, {nil}, {x}, {x, y}, {wrong}} {
				expectEnd(t, order, wrong, l, api.ErrArg)
			}
			for _, p := range []api.Poly{nil, x, {of(1)}} {
				for _, l := range [][]api.Poly{{wrong}, {wrong, x}, {x, wrong}, {nil, wrong}, {x, wrong, y}, {{of(1)}, wrong}} {
					expectEnd(t, order, p, l, api.ErrArg) // also where it is not come to
				}
			}
		}
		for at := range mostPolys {
			l := slices.Repeat([]api.Poly{x}, mostPolys)
			l[at] = api.Poly{of(0)}
			expectEnd(t, order, y, l, api.ErrArg)
		}
	}
}

// What may be by one order may not by another one.
func TestPolynomialsByAnotherOrder(t *testing.T) {
	each := []api.Poly{
		{of(1, 2), of(1, 1, 0, 2), of(1, 0, 3)}, {of(1, 1, 0, 2), of(1, 0, 3), of(1, 2)}, {of(1, 0, 3), of(1, 1, 0, 2), of(1, 2)},
	}
	for own, p := range each {
		for _, order := range allOrders() {
			want := api.OK
			if order != own {
				want = api.ErrArg
			}
			for _, l := range [][]api.Poly{nil, {p}, {nil, p}, {{of(1)}}} {
				expectEnd(t, order, p, l, want)
				expectEnd(t, order, nil, append(slices.Clone(l), p), want)
				expectEnd(t, order, api.Poly{of(1)}, append(slices.Clone(l), p), want)
			}
		}
	}
}

func TestNoOrder(t *testing.T) {
	for _, order := range noOrders() {
		for _, p := range append(mays(), nil, api.Poly{}) {
			for _, l := range [][]api.Poly{nil, {}, {nil}, {{of(1)}}, {p}} {
				expectEnd(t, order, p, l, api.ErrArg)
			}
		}
	}
}

func TestHowManyToDivideBy(t *testing.T) {
	for _, order := range allOrders() {
		p := text(order, "x^2 + 1")
		for n := range mostPolys + 10 {
			for _, one := range []api.Poly{nil, text(order, "x - 2"), text(order, "y")} {
				l := slices.Repeat([]api.Poly{one}, n)
				if n > mostPolys {
					expectEnd(t, order, p, l, api.ErrArg)
					expectEnd(t, order, nil, l, api.ErrArg)
					continue
				}
				quotients, rest := make([]api.Poly, n), p
				if n > 0 && firstThatDivides(p[0].M, l) == 0 {
					quotients[0], rest = text(order, "x + 2"), text(order, "5")
				}
				expect(t, order, p, l, quotients, rest)
			}
		}
		expectEnd(t, order, p, make([]api.Poly, 300), api.ErrArg)
		l := make([]api.Poly, mostPolys)
		l[mostPolys-1] = text(order, "x - 2")
		quotients := make([]api.Poly, mostPolys)
		quotients[mostPolys-1] = text(order, "x + 2")
		expect(t, order, p, l, quotients, text(order, "5"))
	}
}

// P12.1: room for numbers and exponents

// The quotient of the leads' numbers has just room, and has none, also where lowest terms would make some.
func TestRoomForTheQuotientsNumber(t *testing.T) {
	one, both := big.NewRat(1, 1), product(power(2, 300), power(3, -200))
	for _, order := range allOrders() {
		for _, x := range []struct {
			c, by *big.Rat
			want  api.Errno
		}{
			{power(2, 300), power(2, -211), api.OK}, {power(2, 300), power(2, -212), api.ErrBig},
			{power(2, -250), power(2, 261), api.OK}, {power(2, -250), power(2, 262), api.ErrBig},
			{minus(power(2, 300)), power(3, -200), api.ErrBig}, {power(2, -300), minus(power(3, 200)), api.ErrBig},
			{most(), one, api.OK}, {most(), minus(most()), api.OK}, {one, most(), api.OK}, {most(), inverse(most()), api.ErrBig},
			{both, both, api.ErrBig}, {product(power(2, 300), power(3, -100)), one, api.OK},
		} {
			p, l := api.Poly{term(x.c, 1, 1)}, []api.Poly{{term(x.by, 0, 1)}}
			if x.want != api.OK {
				expectEnd(t, order, p, l, x.want)
			} else {
				expect(t, order, p, l, []api.Poly{{term(product(x.c, inverse(x.by)), 1)}}, nil)
			}
		}
	}
}

// The product of the quotient and one of the divisor's numbers has just room, and has none.
func TestRoomForTheProductsNumbers(t *testing.T) {
	for _, order := range allOrders() {
		for _, sign := range []int64{1, -1} {
			for _, tail := range [][]int{{1}, {0, 1}, {0, 0, 0, 1}, {}} {
				for _, x := range []struct {
					c, tail *big.Rat
					want    api.Errno
				}{
					{power(2, 300), power(2, 211), api.OK}, {power(2, 300), power(2, 212), api.ErrBig}, {power(2, 300), power(3, 200), api.ErrBig},
					{power(2, -250), power(2, -261), api.OK}, {power(2, -250), power(2, -262), api.ErrBig}, {most(), most(), api.ErrBig},
				} {
					expectEnd(t, order, api.Poly{term(x.c, 2)}, []api.Poly{{of(sign, 2), term(x.tail, tail...)}}, x.want)
				}
			}
			// the leads' own product is none on the way
			expectEnd(t, order, api.Poly{term(most(), 2)}, []api.Poly{{of(2*sign, 2)}}, api.ErrBig)
		}
	}
}

// The product of the quotient's and one of the divisor's monomials has just room, and has none.
func TestRoomForExponents(t *testing.T) {
	for _, order := range allOrders() {
		for from := range api.MaxVars {
			for to := from + 1; to < api.MaxVars; to++ {
				for n := 1; n <= top; n++ {
					var m, lead, tail api.Mono
					m[from], m[to], lead[from], tail[to] = n, top-n, 1, 1
					l := []api.Poly{{of(1, lead[:]...), of(-1, tail[:]...)}}
					expectEnd(t, order, api.Poly{of(1, m[:]...)}, l, api.OK)
					m[to]++
					expectEnd(t, order, api.Poly{of(1, m[:]...)}, l, api.ErrExp)
				}
			}
		}
	}
	expectTexts(t, api.Lex, "x^3*y^34", "x - y^2", "x^2*y^34 + x*y^36 + y^38", "y^40")
	for _, p := range []string{"x^3*y^35", "x^21", "x^40", "x*y^39", "x*y^39 + x"} {
		expectEnd(t, api.Lex, text(api.Lex, p), texts(api.Lex, "x - y^2"), api.ErrExp)
	}
}

// The sum of what is left and the product has just room, and has none.
func TestRoomForTheSum(t *testing.T) {
	one := big.NewRat(1, 1)
	less := sum(most(), minus(one))
	for _, order := range allOrders() {
		for _, x := range []struct {
			c, take *big.Rat
			want    api.Errno
		}{
			{less, minus(one), api.OK}, {most(), minus(one), api.ErrBig}, {most(), one, api.OK}, {most(), most(), api.OK},
			{minus(less), one, api.OK}, {minus(most()), one, api.ErrBig}, {minus(most()), minus(one), api.OK},
			{power(2, -300), power(2, -211), api.OK}, {power(2, -300), power(2, -212), api.ErrBig}, {inverse(most()), big.NewRat(1, 2), api.ErrBig},
		} {
			p, l := api.Poly{of(1, 1), term(x.c)}, []api.Poly{{of(1, 1), term(x.take)}}
			if x.want != api.OK {
				expectEnd(t, order, p, l, x.want)
			} else {
				expect(t, order, p, l, []api.Poly{{of(1)}}, made(order, term(sum(x.c, minus(x.take)))))
			}
		}
		// that of the leads, of which nothing is left, is none on the way
		expectEnd(t, order, api.Poly{term(product(power(2, 300), power(3, -200)), 1)}, []api.Poly{{of(1, 1)}}, api.ErrBig)
	}
}

// P12.1: how many terms

// below are n terms without x that are below y^10 by each order, of monomials that are asked for.
func below(n int, wanted func(m api.Mono) bool) []api.Term {
	var l []api.Term
	for k := 0; k < 1000 && len(l) < n; k++ {
		if m := (api.Mono{0, k / 100, k / 10 % 10, k % 10}); m[1]+m[2]+m[3] < 10 && wanted(m) {
			l = append(l, of(int64(len(l)+1), m[:]...))
		}
	}
	return l
}

func hasZ(m api.Mono) bool    { return m[2] > 0 }
func hasNoZ(m api.Mono) bool  { return m[2] == 0 }
func hasZNoW(m api.Mono) bool { return m[2] > 0 && m[3] == 0 }

// above are n terms that are above y^10 by each order.
func above(n int) []api.Term {
	l := make([]api.Term, n)
	for i := range l {
		l[i] = of(int64(-1-i), 11+i)
	}
	return l
}

func TestTermsOfTheRest(t *testing.T) {
	for _, order := range allOrders() {
		for k := mostTerms - 10; k < mostTerms; k++ {
			l := []api.Poly{with(order, below(k, hasZ), of(-1, 0, 10))}
			for n := range 15 {
				p := with(order, above(n), of(1, 0, 10))
				if n+k > mostTerms {
					expectEnd(t, order, p, l, api.ErrTerms)
				} else {
					expect(t, order, p, l, []api.Poly{{of(-1)}}, with(order, above(n), below(k, hasZ)...))
				}
			}
		}
	}
}

// More terms than may be are too many on the way, too, though they do not all come to one list.
func TestTermsOfWhatIsLeft(t *testing.T) {
	for _, order := range allOrders() {
		p := with(order, below(30, hasNoZ), of(1, 0, 10))
		for n := 25; n < 40; n++ {
			l := []api.Poly{with(order, below(n, hasZ), of(-1, 0, 10)), {of(1, 0, 0, 1)}}
			if n > 30 {
				expectEnd(t, order, p, l, api.ErrTerms)
				continue
			}
			quotient := with(order, below(n, hasZ))
			for i := range quotient {
				quotient[i].M[2]--
			}
			expect(t, order, p, l, []api.Poly{{of(-1)}, quotient}, with(order, below(30, hasNoZ)))
		}
	}
}

// powers are those of x below n, each with c and a monomial without x.
func powers(c int64, n int, m ...int) []api.Term {
	l := make([]api.Term, n)
	for i := range l {
		l[i] = of(c, m...)
		l[i].M[0] = i
	}
	return l
}

func TestTermsOfAQuotient(t *testing.T) {
	for _, order := range allOrders() {
		l := texts(order, "x*y*z;x - 1;y^2")
		for n := 15; n < 26; n++ {
			p := made(order, of(1, top, 1), of(2, n))
			if top+n > mostTerms {
				expectEnd(t, order, p, l, api.ErrTerms)
			} else {
				expect(t, order, p, l, []api.Poly{nil, with(order, powers(1, top, 0, 1), powers(2, n)...), nil}, made(order, of(1, 0, 1), of(2)))
			}
		}
		// each quotient has room of its own
		p := made(order, of(1, top, 1), of(1, 20), of(1, 0, top, 0, 1), of(1, 0, 19, 1))
		quotients, _, err := split(t, order, p, texts(order, "x - 1;y - 1"))
		if err != api.OK || len(quotients[0]) != mostTerms || len(quotients[1]) != mostTerms {
			t.Errorf("%d: %s, %d", order, shown(quotients...), err)
		}
	}
}

// P12.1: how many moves

// stairs take x^n down to 1, by one divisor for each power.
func stairs(n int) []api.Poly {
	l := make([]api.Poly, n)
	for i := range l {
		l[i] = api.Poly{of(1, n-i), of(-1, n-i-1)}
	}
	return l
}

const steps = 7

// descent is divided by stairs(steps) in n moves; so are its quotients, and its rest.
func descent(order, n int) (p api.Poly, quotients []api.Poly, rest api.Poly) {
	quotients = make([]api.Poly, steps)
	for k := 0; n > 0; k++ {
		down := min(n, steps)
		n -= down
		x := of(int64(k+1), 0, k/8, k%8)
		rest = append(rest, x)
		for i := steps - down; i < steps; i++ {
			quotients[i] = append(quotients[i], x)
		}
		x.M[0] = down
		p = append(p, x)
	}
	for i, q := range quotients {
		quotients[i] = with(order, q)
	}
	return with(order, p), quotients, with(order, rest)
}

func TestMoves(t *testing.T) {
	for _, order := range allOrders() {
		l := stairs(steps)
		for _, n := range []int{0, 1, 2, 6, 7, 8, 50, mostMoves - 1, mostMoves} {
			p, quotients, rest := descent(order, n)
			expect(t, order, p, l, quotients, rest)
			kept := of(-5, 0, 9) // what goes to the rest is no move
			expect(t, order, with(order, p, kept), l, quotients, with(order, rest, kept))
		}
		for _, n := range []int{mostMoves + 1, mostMoves + 2, steps * mostTerms} {
			p, _, _ := descent(order, n)
			expectEnd(t, order, p, l, api.ErrWork)
		}
	}
}

// P12.1: which error comes first

// What would be an error of the move behind the last one is none; of the last one it is.
func TestErrWorkIsAheadOfTheMove(t *testing.T) {
	for _, order := range allOrders() {
		for _, x := range []struct {
			last    api.Term
			divisor api.Poly
			want    api.Errno
		}{
			{of(1, 0, 0, 0, 1), api.Poly{of(2, 0, 0, 0, 1)}, api.OK},
			{term(power(2, 300), 0, 0, 0, 1), api.Poly{term(power(3, -200), 0, 0, 0, 1)}, api.ErrBig},       // of ratio.Mul
			{term(power(2, 300), 0, 0, 0, 1), api.Poly{of(1, 0, 0, 0, 1), term(power(2, 300))}, api.ErrBig}, // of poly.Times
			{of(1, 0, 0, 0, 1), api.Poly{of(1, 0, 0, 0, 1), term(minus(most()))}, api.ErrBig},               // of poly.Add
		} {
			for _, n := range []int{1, mostMoves - 1, mostMoves, mostMoves + 1} {
				p, _, _ := descent(order, n)
				want := x.want
				if n >= mostMoves {
					want = api.ErrWork
				}
				expectEnd(t, order, with(order, p, x.last), append(stairs(steps), x.divisor), want)
			}
		}
	}
}

// The divisor w - 1 has 60 moves, the others as many as asked, and at last w is looked at.
func TestErrWorkAndTermsOfAQuotient(t *testing.T) {
	l := []api.Poly{text(api.Lex, "w - 1")}
	for k := 9; k > 0; k-- {
		l = append(l, made(api.Lex, of(1, 0, k), of(-1, 0, k-1)))
	}
	for _, x := range []struct {
		ofW, others int
		last        bool
		want        api.Errno
	}{
		{60, 340, false, api.OK}, {60, 339, false, api.OK}, {59, 340, true, api.OK},
		{60, 339, true, api.ErrTerms}, {60, 340, true, api.ErrWork}, {59, 341, true, api.ErrWork},
	} {
		p := made(api.Lex, of(1, 2, 0, 0, top), of(1, 1, 0, 0, x.ofW-top))
		for k := range x.others / 9 {
			p = with(api.Lex, p, of(1, 0, 9, k))
		}
		p = with(api.Lex, p, of(1, 0, x.others%9, top))
		if x.last {
			p = with(api.Lex, p, of(1, 0, 0, 0, 1))
		}
		expectEnd(t, api.Lex, p, l, x.want)
	}
}

// Ahead of what there is behind 400 moves stand as many x as asked; then 40 terms, and one that may be divided.
func TestErrWorkAndTermsOfTheRest(t *testing.T) {
	l := []api.Poly{text(api.Lex, "w^40 - 1")}
	for k := 20; k > 1; k-- {
		l = append(l, made(api.Lex, of(1, 0, k), of(-1, 0, k-1)))
	}
	l = append(l, text(api.Lex, "y - w - 1"))
	for _, x := range []struct {
		ahead int
		more  string
		want  api.Errno
	}{
		{20, "0", api.OK}, {21, "0", api.ErrTerms},
		{20, "w^40", api.ErrWork}, {22, "w^40", api.ErrWork}, {23, "w^40", api.ErrTerms}, {39, "w^40", api.ErrTerms},
		{20, "z^20*w^40", api.ErrWork}, {39, "z^20*w^40", api.ErrWork},
	} {
		p := with(api.Lex, text(api.Lex, x.more), powers(1, x.ahead+1)[1:]...)
		for k := range 20 {
			p = with(api.Lex, p, of(1, 0, 20, k))
		}
		expectEnd(t, api.Lex, p, l, x.want)
	}
}

// x is the last one that is divided.
func TestTheNumberIsAheadOfErrTerms(t *testing.T) {
	for _, order := range allOrders() {
		l := []api.Poly{{term(power(3, -200), 1), term(minus(power(3, -200)))}}
		for _, x := range []struct {
			n    int
			last *big.Rat
			want api.Errno
		}{
			{19, big.NewRat(1, 1), api.OK}, {20, big.NewRat(1, 1), api.ErrTerms}, {19, power(2, 300), api.ErrBig}, {20, power(2, 300), api.ErrBig},
		} {
			expectEnd(t, order, made(order, of(1, top, 1), of(1, x.n, 0, 0, 1), term(x.last, 1)), l, x.want)
		}
	}
}

func TestErrTermsIsAheadOfTimes(t *testing.T) {
	for _, order := range allOrders() {
		for n, want := range map[int]api.Errno{19: api.ErrExp, 20: api.ErrTerms} { // x*w^40 is the last one that is divided
			expectEnd(t, order, made(order, of(1, top, 1), of(1, n, 0, 1, top-n), of(1, 1, 0, 0, top)), texts(order, "x - w"), want)
		}
		for n, want := range map[int]api.Errno{19: api.ErrBig, 20: api.ErrTerms} {
			expectEnd(t, order, made(order, of(1, top, 1), of(1, n, 0, 0, 1), term(most(), 1)), texts(order, "x - 2"), want)
		}
	}
}

func TestErrTermsIsAheadOfAdd(t *testing.T) {
	for _, order := range allOrders() {
		for n, want := range map[int]api.Errno{19: api.ErrBig, 20: api.ErrTerms} { // x is the last one that is divided, to 1
			expectEnd(t, order, made(order, of(1, top, 1), of(1, n, 0, 0, 1), of(1, 1), term(most())), texts(order, "x - 1"), want)
		}
	}
}

func TestTimesIsAheadOfAdd(t *testing.T) {
	for _, order := range allOrders() {
		p := api.Poly{of(1, 1, 0, 0, top), term(most(), 0, 0, 0, top)}
		expectEnd(t, order, p, texts(order, "x - 1"), api.ErrBig)
		expectEnd(t, order, p, texts(order, "x - w - 1"), api.ErrExp)
		p = with(order, below(40, hasZ), term(power(2, 300), 0, 10))
		tail := below(30, hasNoZ)
		expectEnd(t, order, p, []api.Poly{with(order, tail, of(1, 0, 10))}, api.ErrTerms)
		expectEnd(t, order, p, []api.Poly{with(order, tail, of(1, 0, 10), term(power(2, 300)))}, api.ErrBig)
	}
}

// Of two moves the first one's error is told, whatever it is.
func TestTheFirstMoveIsAhead(t *testing.T) {
	big, small := power(2, 300), power(3, -200)
	for _, order := range allOrders() {
		far, wide := of(1, 1, 0, 0, top), term(big, 0, 1)
		byX, byY := text(order, "x - w"), api.Poly{term(small, 0, 1)}
		for _, l := range [][]api.Poly{{byX, byY}, {byY, byX}} {
			expectEnd(t, order, with(order, api.Poly{far, wide}), l, api.ErrExp)
		}
		wide, far = term(big, 1, 0, top, 1), of(1, 0, 1, 0, top)
		byX, byY = api.Poly{term(small, 1)}, text(order, "y - w")
		for _, l := range [][]api.Poly{{byX, byY}, {byY, byX}} {
			expectEnd(t, order, with(order, api.Poly{far, wide}), l, api.ErrBig)
		}
	}
}

// A rest that has too many terms is told ahead of the moves behind that; w is the last one that is divided.
func TestErrTermsOfTheRestIsAheadOfWhatIsBehind(t *testing.T) {
	for _, order := range allOrders() {
		l := []api.Poly{with(order, below(40, hasZNoW), of(-1, 0, 10)), {term(power(3, -200), 0, 0, 0, 1)}}
		for n, want := range map[int][2]api.Errno{19: {api.OK, api.ErrBig}, 20: {api.OK, api.ErrBig}, 21: {api.ErrTerms, api.ErrTerms}} {
			p := with(order, above(n), of(1, 0, 10))
			expectEnd(t, order, p, l, want[0])
			expectEnd(t, order, with(order, p, term(power(2, 300), 0, 0, 0, 1)), l, want[1])
		}
	}
}

func TestErrArgIsAheadOfAll(t *testing.T) {
	for _, order := range allOrders() {
		p, _, _ := descent(order, mostMoves+1)
		l := stairs(steps)
		expectEnd(t, order, p, l, api.ErrWork)
		expectEnd(t, order, p, append(slices.Clone(l), api.Poly{of(0)}), api.ErrArg)
		expectEnd(t, order, p, append(slices.Clone(l), make([]api.Poly, mostPolys)...), api.ErrArg)
		expectEnd(t, order, api.Poly{of(1, 1), of(1, 1)}, texts(order, "x - 1"), api.ErrArg)
		expectEnd(t, 3, p, l, api.ErrArg)
	}
}

// Divisions, worked out by other means

// isRoom tells whether numbers have no more bits than may be.
func isRoom(l ...*big.Int) bool {
	return !slices.ContainsFunc(l, func(n *big.Int) bool { return n.BitLen() > mostBits })
}

func isRoomForProduct(a, b *big.Rat) bool {
	mul := func(a, b *big.Int) *big.Int { return new(big.Int).Mul(a, b) }
	return isRoom(mul(a.Num(), b.Num()), mul(a.Denom(), b.Denom()))
}

func isRoomForSum(a, b *big.Rat) bool {
	mul := func(a, b *big.Int) *big.Int { return new(big.Int).Mul(a, b) }
	x, y := mul(a.Num(), b.Denom()), mul(b.Num(), a.Denom())
	return isRoom(x, y, new(big.Int).Add(x, y), mul(a.Denom(), b.Denom()))
}

func (m model) highest(order int) api.Mono {
	var best api.Mono
	for at := range m {
		if height(order, at) > height(order, best) {
			best = at
		}
	}
	return best
}

// add puts q times c and by to m.
func (m model) add(q api.Poly, c *big.Rat, by api.Mono) api.Errno {
	for _, t := range q {
		if !isRoomForProduct(value(t.C), c) {
			return api.ErrBig
		}
		if at := times(t.M, by); slices.Max(at[:]) > top {
			return api.ErrExp
		}
	}
	for _, t := range q {
		at, v := times(t.M, by), product(value(t.C), c)
		if m[at] != nil && !isRoomForSum(m[at], v) {
			return api.ErrBig
		}
		m.put(at, v)
	}
	if len(m) > mostTerms {
		return api.ErrTerms
	}
	return api.OK
}

// divided is what Split must tell of what may be.
func divided(order int, p api.Poly, l []api.Poly) ([]api.Poly, api.Poly, api.Errno) {
	left, quotients, rest := modelOf(p), make([]api.Poly, len(l)), api.Poly(nil)
	for moves := 0; len(left) > 0; {
		lead := api.Term{M: left.highest(order)}
		lead.C = written(left[lead.M])
		i := firstThatDivides(lead.M, l)
		if i < 0 {
			if rest = append(rest, lead); len(rest) > mostTerms {
				return nil, nil, api.ErrTerms
			}
			delete(left, lead.M)
			continue
		}
		if moves++; moves > mostMoves {
			return nil, nil, api.ErrWork
		}
		one := inverse(value(l[i][0].C))
		if !isRoomForProduct(value(lead.C), one) {
			return nil, nil, api.ErrBig
		}
		c := product(value(lead.C), one)
		m, _ := by(lead.M, l[i][0].M)
		if quotients[i] = append(quotients[i], term(c, m[:]...)); len(quotients[i]) > mostTerms {
			return nil, nil, api.ErrTerms
		}
		if err := left.add(l[i], minus(c), m); err != api.OK {
			return nil, nil, err
		}
	}
	return quotients, rest, api.OK
}

// source tells numbers that hang on its seed alone.
type source uint64

func (s *source) below(n int) int {
	*s = *s*6364136223846793005 + 1442695040888963407
	return int(uint64(*s) >> 33 % uint64(n))
}

// among is one of some numbers.
func (s *source) among(l ...int) int { return l[s.below(len(l))] }

// kind is one of divisions: at most how many divisors there are, and terms of
// what is divided and of each of them; which exponents, and how great numbers.
type kind struct {
	divisors, terms, each int
	exponents             []int
	bits                  int
}

// number is of small primes, up to so many bits, or a small one.
func (s *source) number(bits int) *big.Rat {
	v := big.NewRat(int64(s.below(9)-4), int64(s.below(4)+1))
	if v.Sign() == 0 {
		v = big.NewRat(1, 1)
	}
	if bits > 0 && s.below(3) > 0 {
		v = product(v, product(power(2, int64(s.below(2*bits)-bits)), power(3, int64(s.below(bits)-bits/2))))
	}
	if !isRoom(v.Num(), v.Denom()) {
		return big.NewRat(2, 3)
	}
	return v
}

func (s *source) poly(order, n int, k kind) api.Poly {
	var l []api.Term
	for range n {
		var m api.Mono
		for i := range m {
			m[i] = s.among(k.exponents...)
		}
		if !slices.ContainsFunc(l, func(t api.Term) bool { return t.M == m }) {
			l = append(l, term(s.number(k.bits), m[:]...))
		}
	}
	return made(order, l...)
}

// kinds of divisions: small ones, many terms, great exponents, great numbers.
func kinds() []kind {
	return []kind{
		{3, 6, 3, []int{0, 0, 1, 2}, 0}, {6, 10, 4, []int{0, 0, 1, 2, 3, 4}, 0}, {24, 8, 2, []int{0, 0, 1, 1, 2, 9}, 0},
		{4, 60, 2, []int{0, 1, 2, 3}, 0}, {3, 60, 12, []int{0, 1, 2, 3}, 0}, {6, 60, 60, []int{0, 0, 1, 2}, 0},
		{3, 5, 4, []int{0, 1, 3, 39, top}, 0}, {4, 6, 3, []int{0, 1, 2, top}, 0}, {3, 6, 3, []int{0, 0, 20, top}, 0},
		{3, 4, 3, []int{0, 0, 1, 2}, 40}, {3, 4, 3, []int{0, 0, 1, 2}, 200}, {3, 3, 2, []int{0, 1}, 500},
	}
}

// ladder has a divisor for each power of x and y up to the 12th one, each of which takes it down by one.
func (s *source) ladder(order int) []api.Poly {
	var l []api.Poly
	for k := mostPolys / 2; k > 0; k-- {
		for variable := range 2 {
			var lead api.Mono
			lead[variable] = k
			tail := lead
			tail[variable]--
			l = append(l, made(order, of(1, lead[:]...), of(int64(s.among(-1, 1)), tail[:]...)))
		}
	}
	return l
}

// Polynomials of many kinds, by each order; each error comes up often.
func TestAgainstOtherMeans(t *testing.T) {
	s, ends := source(12), map[api.Errno]int{}
	for _, order := range allOrders() {
		for _, k := range kinds() {
			for range 80 {
				l := make([]api.Poly, s.below(k.divisors+1))
				for i := range l {
					l[i] = s.poly(order, s.below(k.each+1), k)
				}
				ends[expectDivided(t, order, s.poly(order, 1+s.below(k.terms), k), l)]++
			}
		}
		for n := 24; n <= mostTerms; n += 2 {
			p := s.poly(order, n, kind{exponents: []int{0, 1, 3, 5, 7, 8, 9, 10, 11, 12}})
			ends[expectDivided(t, order, p, s.ladder(order))]++
		}
	}
	for _, err := range []api.Errno{api.OK, api.ErrBig, api.ErrExp, api.ErrTerms, api.ErrWork} {
		if ends[err] < 20 {
			t.Errorf("too few of %d: %v", err, ends)
		}
	}
}

// expectDivided expects what is worked out by other means, and tells how it ends.
func expectDivided(t *testing.T, order int, p api.Poly, l []api.Poly) api.Errno {
	t.Helper()
	quotients, rest, err := divided(order, p, l)
	if err == api.OK {
		expect(t, order, p, l, quotients, rest)
	} else {
		expectEnd(t, order, p, l, err)
	}
	return err
}

// R3 and R5

// guarded is a copy of p with terms behind its length, and limbs behind those of its rows.
func guarded(p api.Poly) api.Poly {
	behind := func(a api.Nat) api.Nat { return slices.Concat(a, api.Nat{11, 12})[:len(a)] }
	q := slices.Concat(p, api.Poly{of(7, 1), of(8)})
	for i, t := range q {
		q[i].C.Num, q[i].C.Den = behind(t.C.Num), behind(t.C.Den)
	}
	return q[:len(p)]
}

func guardedList(l []api.Poly) []api.Poly {
	all := []api.Poly{}
	for _, p := range l {
		all = append(all, guarded(p))
	}
	return append(all, guarded(nil), guarded(nil))[:len(l)]
}

// seen is all of what was guarded, what lies behind the lengths too.
func seen(p api.Poly, l []api.Poly) string {
	text := ""
	for _, q := range append([]api.Poly{p}, l[:len(l)+2]...) {
		text += ";"
		for _, t := range q[:len(q)+2] {
			text += fmt.Sprint(t, t.C.Num[:len(t.C.Num)+2], t.C.Den[:len(t.C.Den)+2])
		}
	}
	return text
}

// asked is one question: p by l.
type asked struct {
	order int
	p     api.Poly
	l     []api.Poly
}

// questions end in each way there is.
func questions() []asked {
	var all []asked
	for _, order := range allOrders() {
		for _, p := range append(mays(), nil, api.Poly{of(0)}, text(order, "x^2*y + x*y^2 + y^2"), text(order, "x^3*w^40 + x")) {
			for _, l := range [][]api.Poly{nil, {nil, p}, {{of(2, 0, 1)}}, texts(order, "x*y - 1;0;y^2 - 1"), texts(order, "x - w;z - w - 1"), {p, {of(3)}}} {
				all = append(all, asked{order, p, l})
			}
		}
		for _, n := range []int{mostMoves, mostMoves + 1} {
			p, _, _ := descent(order, n)
			all = append(all, asked{order, p, stairs(steps)})
		}
		tail := below(59, hasZ)
		for n := range 3 {
			all = append(all, asked{order, with(order, above(n), of(1, 0, 10)), []api.Poly{with(order, tail, of(1, 0, 10))}})
		}
	}
	return all
}

func TestNothingHandedInIsChanged(t *testing.T) {
	for _, x := range questions() {
		p, l := guarded(x.p), guardedList(x.l)
		split(t, x.order, p, l)
		if seen(p, l) != seen(guarded(x.p), guardedList(x.l)) {
			t.Fatalf("changed %s", question(x.order, x.p, x.l))
		}
	}
}

// The lists that are told are new: who got them may write to them, and the next one who asks is told the same.
func TestOneAnswer(t *testing.T) {
	overwrite := func(p api.Poly) {
		p = p[:cap(p)]
		for i := range p {
			p[i] = api.Term{}
		}
	}
	for _, x := range questions() {
		p, l := guarded(x.p), guardedList(x.l)
		first := fmt.Sprint(Split(x.order, p, l))
		for range 2 {
			quotients, rest, err := Split(x.order, p, l)
			if again := fmt.Sprint(quotients, rest, err); again != first {
				t.Fatalf("%s: %s, then %s", question(x.order, x.p, x.l), first, again)
			}
			lists := append(quotients, rest)
			for i, q := range lists {
				others := fmt.Sprint(lists[i+1:])
				overwrite(q)
				if fmt.Sprint(lists[i+1:]) != others {
					t.Fatalf("%s: two lists share memory", question(x.order, x.p, x.l))
				}
			}
			alone, _ := Rest(x.order, p, l)
			overwrite(alone)
		}
		if seen(p, l) != seen(guarded(x.p), guardedList(x.l)) {
			t.Fatalf("changed %s", question(x.order, x.p, x.l))
		}
	}
}
