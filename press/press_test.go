package press

import (
	"encoding/binary"
	"math"
	"slices"
	"strings"
	"testing"

	"syzygy/api"
	"syzygy/octet"
	"syzygy/parse"
)

const (
	top       = api.MaxExp
	mostTerms = api.MaxTerms
	mostPolys = api.MaxBasis
)

func allOrders() []int { return []int{api.Lex, api.Grlex, api.Grevlex} }

// noOrders are the numbers of none.
func noOrders() []int { return []int{-1, -2, 3, 4, 5, 255, 256, 1 << 32, math.MaxInt, math.MinInt} }

// Bytes, told by other means: of anything, also of what may not be.

func countText(n int) string {
	if n == 0 {
		return "\x00"
	}
	return string([]byte{1, byte(n)})
}

func limbText(n uint64) string { return string(binary.BigEndian.AppendUint64(nil, n)) }

func rowText(a api.Nat) string {
	text := countText(len(a))
	for _, limb := range slices.Backward(a) {
		text += limbText(limb)
	}
	return text
}

func ratText(a api.Rat) string {
	if a.Neg {
		return "\x01" + rowText(a.Num) + rowText(a.Den)
	}
	return "\x00" + rowText(a.Num) + rowText(a.Den)
}

func termText(t api.Term) string {
	return ratText(t.C) + string([]byte{byte(t.M[0]), byte(t.M[1]), byte(t.M[2]), byte(t.M[3])})
}

func polyText(p api.Poly) string {
	text := countText(len(p))
	for _, t := range p {
		text += termText(t)
	}
	return text
}

func listText(l []api.Poly) string {
	text := countText(len(l))
	for _, p := range l {
		text += polyText(p)
	}
	return text
}

// behinds are bytes that may stand behind a thing.
func behinds() []string {
	return []string{"", "\x00", "\x01", "\x08", "\xff", "ab", strings.Repeat("\x00", 10), strings.Repeat("\xff", 20)}
}

// Polynomials

// number is n by d, which have nothing in common.
func number(n int64, d uint64) api.Rat {
	if n < 0 {
		return api.Rat{Neg: true, Num: api.Nat{uint64(-n)}, Den: api.Nat{d}}
	}
	return api.Rat{Num: api.Nat{uint64(n)}, Den: api.Nat{d}}
}

func full(n int) api.Nat { return slices.Repeat(api.Nat{math.MaxUint64}, n) }

func term(c api.Rat, m ...int) api.Term {
	t := api.Term{C: c}
	copy(t.M[:], m)
	return t
}

// of is a term with a number above 0.
func of(n int64, m ...int) api.Term { return term(number(n, 1), m...) }

// distinct are n terms; each monomial is divided by the next one, so they fall by each order.
func distinct(n int) api.Poly {
	l := make(api.Poly, n)
	for i := range l {
		k := n - 1 - i
		l[i] = term(number(int64(i%7)-9, 1), k/4, (k+1)/4, (k+2)/4, (k+3)/4)
	}
	return l
}

// greatest has all the bytes that there may be.
func greatest() api.Poly {
	p := distinct(mostTerms)
	even := append(api.Nat{math.MaxUint64 - 1}, full(api.MaxLimbs-1)...)
	for i := range p {
		p[i].C = api.Rat{Neg: i%2 == 0, Num: full(api.MaxLimbs), Den: even}
	}
	return p
}

// source tells numbers that hang on its seed alone.
type source uint64

func (s *source) below(n int) int {
	*s = *s*6364136223846793005 + 1442695040888963407
	return int(uint64(*s) >> 33 % uint64(n))
}

// height is a number that is as great as m is high by order, worked out by other means than the layers' own.
func height(order int, m api.Mono) int {
	digits := func(l ...int) (n int) {
		for _, d := range l {
			n = n*(4*top+1) + d
		}
		return n
	}
	degree := m[0] + m[1] + m[2] + m[3]
	switch order {
	case api.Lex:
		return digits(m[0], m[1], m[2], m[3])
	case api.Grlex:
		return digits(degree, m[0], m[1], m[2], m[3])
	default:
		return digits(degree, top-m[3], top-m[2], top-m[1], top-m[0])
	}
}

// falls tells whether p's monomials do, by order.
func falls(order int, p api.Poly) bool {
	for i := 1; i < len(p); i++ {
		if height(order, p[i-1].M) <= height(order, p[i].M) {
			return false
		}
	}
	return true
}

// scattered is a polynomial of at most n terms by order.
func scattered(s *source, order, n int) api.Poly {
	var p api.Poly
	for range n {
		t := term(number(int64(2*s.below(2)-1)*int64(1+s.below(1000)), 1))
		if s.below(2) == 0 {
			t.C = api.Rat{Neg: s.below(2) == 0, Num: append(make(api.Nat, s.below(api.MaxLimbs)), 2), Den: api.Nat{uint64(2*s.below(99) + 1)}}
		}
		for i := range t.M {
			t.M[i] = max(s.below(top+11)-10, 0)
		}
		if !slices.ContainsFunc(p, func(other api.Term) bool { return other.M == t.M }) {
			p = append(p, t)
		}
	}
	slices.SortFunc(p, func(a, b api.Term) int { return height(order, b.M) - height(order, a.M) })
	return p
}

func parsed(order int, s string) api.Poly {
	p, err := parse.Parse(order, s)
	if err != api.OK {
		panic(s)
	}
	return p
}

// polynomials may be by order.
func polynomials(order int) []api.Poly {
	l := []api.Poly{
		nil, {}, distinct(1), distinct(2), distinct(mostTerms - 1), distinct(mostTerms), greatest(),
		{term(api.Rat{Num: full(api.MaxLimbs), Den: api.Nat{1}}, top, top, top, top)},
		{term(api.Rat{Neg: true, Num: api.Nat{1}, Den: full(api.MaxLimbs)})},
	}
	for _, s := range []string{
		"1", "-1", "x", "y", "-z", "w", "2/3*x^40", "w^40 - 1", "2*x - 1/3", "x^2 - y", "x*y - 1", "y^2 + x", "x*z + y^2 + x", "x + y + z + w + 1",
		"x^3*y - 7/2*x*y^2*z + w^4 - 18446744073709551616*x*w", "1/18446744073709551617*x*y*z*w - 3*y^9 + x",
	} {
		l = append(l, parsed(order, s))
	}
	s := source(order + 1)
	for n := range 12 {
		l = append(l, scattered(&s, order, 5*n))
	}
	return l
}

// byOneOrder may be by that one alone.
func byOneOrder() [3]api.Poly {
	return [3]api.Poly{
		api.Lex:     {of(1, 1), of(2, 0, 2)},
		api.Grlex:   {of(3, 1, 0, 1), of(1, 0, 2), of(5, 1)},
		api.Grevlex: {of(1, 0, 2), of(4, 1, 0, 1)},
	}
}

// byNoOrder have good terms, and more than one of a monomial, or none of the orders.
func byNoOrder() []api.Poly {
	return []api.Poly{
		{of(1), of(1, 1)}, {of(1, 0, 0, 0, 1), of(1, 1)}, {of(2, 0, 1), of(1, 0, 2)},
		{of(1, 1), of(1, 1)}, {of(1), of(2)}, {of(5, 3, 1), of(1, 2), of(1, 2)}, {of(1, top, top, top, top), of(2, top, top, top, top)},
		{of(1, 0, 1), of(1, 0, 0, 2), of(1, 1)},           // the first two by Lex alone, the others by none of it
		{of(1, 1, 0, 1), of(1, 0, 2), of(1, 1), of(1, 1)}, // by Grlex, but for the last one
		append(distinct(10), of(1, 1)), append(distinct(2), distinct(2)...),
		{of(1, 2), of(1, 1), of(1), of(1, 0, 1)},
	}
}

// wrongNumbers may not be, each for its own reason.
func wrongNumbers() []api.Rat {
	unit := api.Nat{1}
	tooLong := append(make(api.Nat, api.MaxLimbs), 1)
	return []api.Rat{
		{}, {Num: unit}, {Neg: true, Num: unit}, // by 0
		{Neg: true, Den: unit}, {Den: api.Nat{2}}, // 0, written otherwise
		{Num: api.Nat{2}, Den: api.Nat{4}}, {Num: api.Nat{3}, Den: api.Nat{3}}, // not in lowest terms
		{Num: api.Nat{0}, Den: unit}, {Num: api.Nat{1, 0}, Den: unit}, {Num: unit, Den: api.Nat{1, 0}}, // not trim
		{Num: tooLong, Den: unit}, {Num: unit, Den: tooLong},
	}
}

// zero is the number 0, as it may be.
func zero() api.Rat { return api.Rat{Den: api.Nat{1}} }

// wrongExponents are no monomial's; some of them are those of one, if they are cut down to a byte.
func wrongExponents() []int {
	return []int{-1, -top, top + 1, top + 2, 127, 128, 255, 256, 257, 256 + top, 1 << 32, math.MaxInt, math.MinInt}
}

// wrongPolys may be by no order, each for its own reason.
func wrongPolys() []api.Poly {
	l := append(byNoOrder(), distinct(mostTerms+1), distinct(mostTerms+30), distinct(150)[:mostTerms+1], api.Poly{{}})
	for _, c := range append(wrongNumbers(), zero(), api.Rat{Num: api.Nat{}, Den: api.Nat{1}}) {
		l = append(l, api.Poly{term(c)}, api.Poly{term(c, 2), of(1, 1)}, api.Poly{of(1, 2), term(c, 1)}, api.Poly{of(1, 3), term(c, 2), of(1, 1)})
	}
	for _, n := range wrongExponents() {
		for at := range api.MaxVars {
			t := of(7)
			t.M[at] = n
			l = append(l, api.Poly{t}, api.Poly{t, of(1)}, api.Poly{of(1, top, top, top, top), t})
		}
	}
	return l
}

// identical holds polynomials against each other limb by limb.
func identical(p, q api.Poly) bool {
	return slices.EqualFunc(p, q, func(a, b api.Term) bool {
		return a.M == b.M && a.C.Neg == b.C.Neg && slices.Equal(a.C.Num, b.C.Num) && slices.Equal(a.C.Den, b.C.Den)
	})
}

func allIdentical(l, m []api.Poly) bool { return slices.EqualFunc(l, m, identical) }

// expectPut, and those behind it, hold what is told against what must be: with an error all else is zero.
func expectPut(t *testing.T, p api.Poly, want string, wantErr api.Errno) {
	t.Helper()
	if got, err := Put(p); got != want || err != wantErr {
		t.Errorf("Put %v: %q %d, want %q %d", p, got, err, want, wantErr)
	}
}

func expectGet(t *testing.T, order int, s string, want api.Poly, behind string, wantErr api.Errno) {
	t.Helper()
	if got, rest, err := Get(order, s); !identical(got, want) || rest != behind || err != wantErr {
		t.Errorf("Get %d %q: %v %q %d, want %v %q %d", order, s, got, rest, err, want, behind, wantErr)
	}
}

func expectPutList(t *testing.T, l []api.Poly, want string, wantErr api.Errno) {
	t.Helper()
	if got, err := PutList(l); got != want || err != wantErr {
		t.Errorf("PutList %v: %q %d, want %q %d", l, got, err, want, wantErr)
	}
}

func expectGetList(t *testing.T, order int, s string, want []api.Poly, behind string, wantErr api.Errno) {
	t.Helper()
	if got, rest, err := GetList(order, s); !allIdentical(got, want) || rest != behind || err != wantErr {
		t.Errorf("GetList %d %q: %v %q %d, want %v %q %d", order, s, got, rest, err, want, behind, wantErr)
	}
}

// P11.1

func TestPut(t *testing.T) {
	for _, order := range allOrders() {
		for _, p := range polynomials(order) {
			expectPut(t, p, polyText(p), api.OK)
		}
	}
}

func TestPutEdges(t *testing.T) {
	one := "\x01\x01" + limbText(1)
	for _, x := range []struct {
		p    api.Poly
		want string
	}{
		{nil, "\x00"}, {api.Poly{}, "\x00"}, // the chapter's example
		{api.Poly{of(1)}, "\x01\x01" + "\x00" + one + one + "\x00\x00\x00\x00"},
		{api.Poly{term(number(-1, 1), 1, 2, 3, 4)}, "\x01\x01" + "\x01" + one + one + "\x01\x02\x03\x04"},
		{api.Poly{term(number(1, 2), 40, 0, 39, 9)}, "\x01\x01" + "\x00" + one + "\x01\x01" + limbText(2) + "\x28\x00\x27\x09"},
		{api.Poly{of(2, 1), term(number(-1, 3))}, "\x01\x02" + "\x00\x01\x01" + limbText(2) + one + "\x01\x00\x00\x00" + "\x01" + one + "\x01\x01" + limbText(3) + "\x00\x00\x00\x00"},
	} {
		expectPut(t, x.p, x.want, api.OK)
		expectGet(t, api.Lex, x.want, x.p, "", api.OK)
	}
	for n := range top + 1 {
		for at := range api.MaxVars {
			p := api.Poly{of(1)}
			p[0].M[at] = n
			expectPut(t, p, polyText(p), api.OK)
		}
	}
}

func TestPutBySomeOrder(t *testing.T) {
	for order, p := range byOneOrder() {
		for _, other := range allOrders() {
			if falls(other, p) != (other == order) {
				t.Fatalf("%v is not by %d alone", p, order)
			}
		}
		expectPut(t, p, polyText(p), api.OK)
	}
	for _, p := range byNoOrder() {
		expectPut(t, p, "", api.ErrArg)
	}
}

func TestPutManyTerms(t *testing.T) {
	expectPut(t, distinct(mostTerms), "\x01\x3c"+polyText(distinct(mostTerms))[2:], api.OK)
	expectPut(t, greatest(), polyText(greatest()), api.OK)
	for n := mostTerms + 1; n < mostTerms+20; n++ {
		expectPut(t, distinct(n), "", api.ErrArg)
	}
	expectPut(t, distinct(150), "", api.ErrArg)
}

func TestPutWrong(t *testing.T) {
	for _, p := range wrongPolys() {
		expectPut(t, p, "", api.ErrArg)
	}
}

// P11.2

func TestGet(t *testing.T) {
	for _, order := range allOrders() {
		for _, p := range polynomials(order) {
			for _, behind := range behinds() {
				expectGet(t, order, polyText(p)+behind, p, behind, api.OK)
			}
		}
	}
}

func TestGetCutOff(t *testing.T) {
	for _, order := range allOrders() {
		expectGet(t, order, "", nil, "", api.ErrShort)
		for _, p := range polynomials(order) {
			s := polyText(p)
			for i := 0; i < len(s); i += 1 + len(s)/1000 {
				expectGet(t, order, s[:i], nil, "", api.ErrShort)
			}
		}
	}
	s := polyText(distinct(mostTerms))
	for i := range len(s) {
		expectGet(t, api.Lex, s[:i], nil, "", api.ErrShort)
	}
}

func TestGetHowMany(t *testing.T) {
	terms := strings.Repeat(termText(of(1)), 70)
	for _, x := range []struct {
		s   string
		err api.Errno
	}{
		{"\x01", api.ErrShort}, {"\x02\x01", api.ErrShort}, {"\x08\x01\x02\x03\x04\x05\x06\x07", api.ErrShort},
		{"\x09", api.ErrForm}, {"\xff", api.ErrForm}, {"\x09" + terms, api.ErrForm},
		{"\x01\x00", api.ErrForm}, {"\x02\x00\x01" + terms, api.ErrForm}, {"\x01\x00" + terms, api.ErrForm}, // not the one way
		{"\x01\x3c", api.ErrShort}, {"\x01\x3d", api.ErrForm}, {"\x01\x3d" + terms, api.ErrForm}, {"\x01\xff" + terms, api.ErrForm},
		{"\x02\x01\x00", api.ErrForm}, {"\x02\x01\x01" + terms, api.ErrForm}, // cut down to a byte these are few
		{"\x04\x80\x00\x00\x00", api.ErrForm}, {"\x05\x01\x00\x00\x00\x01" + terms, api.ErrForm}, {"\x08\x80\x00\x00\x00\x00\x00\x00\x01" + terms, api.ErrForm},
		{"\x08" + strings.Repeat("\xff", 8), api.ErrForm},
	} {
		expectGet(t, api.Lex, x.s, nil, "", x.err)
	}
	for _, order := range allOrders() {
		expectGet(t, order, polyText(distinct(mostTerms)), distinct(mostTerms), "", api.OK)
		expectGet(t, order, polyText(distinct(mostTerms+1)), nil, "", api.ErrForm)
	}
}

// coefficients are bytes that are no coefficient's, with an error of their own.
func coefficients() map[string]api.Errno {
	one := rowText(api.Nat{1})
	l := map[string]api.Errno{
		"\x02" + one + one: api.ErrForm, "\xff": api.ErrForm, "\x00\x09": api.ErrForm, "\x00\x01\x00": api.ErrForm, "\x01\x01\x09": api.ErrForm,
		"\x00" + one + "\x09": api.ErrForm, "\x01" + one + "\x01\x09" + one: api.ErrForm,
	}
	for _, c := range wrongNumbers() {
		l[ratText(c)] = api.ErrForm
	}
	return l
}

func TestGetCoefficient(t *testing.T) {
	for s, err := range coefficients() {
		if _, _, asked := octet.GetRat(s + "\x00\x00\x00\x00"); asked != err {
			t.Fatalf("octet.GetRat %q: %d", s, asked)
		}
		first := termText(of(1, 2))
		expectGet(t, api.Lex, "\x01\x01"+s, nil, "", err)
		expectGet(t, api.Lex, "\x01\x01"+s+"\x00\x00\x00\x00", nil, "", err)
		expectGet(t, api.Lex, "\x01\x02"+first+s+"\x01\x00\x00\x00", nil, "", err)
		expectGet(t, api.Lex, "\x01\x02"+s+"\x03\x00\x00\x00"+first, nil, "", err)
	}
}

func TestGetFewExponents(t *testing.T) {
	for _, c := range []api.Rat{number(1, 1), number(-5, 3), {Num: full(8), Den: api.Nat{1}}, zero()} {
		for n := range api.MaxVars {
			exponents := strings.Repeat("\x00", n)
			expectGet(t, api.Lex, "\x01\x01"+ratText(c)+exponents, nil, "", api.ErrShort)
			expectGet(t, api.Lex, "\x01\x02"+termText(of(1, 1))+ratText(c)+exponents, nil, "", api.ErrShort)
		}
	}
}

func TestGetExponents(t *testing.T) {
	for n := range 256 {
		for at := range api.MaxVars {
			p := api.Poly{of(1)}
			p[0].M[at] = n
			for _, order := range allOrders() {
				if n <= top {
					expectGet(t, order, polyText(p)+"b", p, "b", api.OK)
				} else {
					expectGet(t, order, polyText(p)+"b", nil, "", api.ErrForm)
				}
			}
		}
	}
}

func TestGetTerms(t *testing.T) {
	l := byNoOrder()
	for _, terms := range []api.Poly{
		{term(zero())}, {term(zero(), 1)}, {of(1, 1), term(zero())}, {term(zero(), 1), of(1)}, {of(1, 2), term(zero(), 1), of(1)},
		{of(1, 1), term(number(-1, 1), 1)}, {of(1, top+1), of(1)}, {of(1, 1), of(1, 0, 255)},
	} {
		l = append(l, terms)
	}
	for _, order := range allOrders() {
		for _, p := range l {
			expectGet(t, order, polyText(p), nil, "", api.ErrForm)
			expectGet(t, order, polyText(p)+"behind", nil, "", api.ErrForm)
		}
	}
}

func TestGetByOrder(t *testing.T) {
	for order, p := range byOneOrder() {
		for _, asked := range allOrders() {
			if asked == order {
				expectGet(t, asked, polyText(p)+"b", p, "b", api.OK)
			} else {
				expectGet(t, asked, polyText(p)+"b", nil, "", api.ErrForm)
			}
		}
	}
	s := source(77)
	for _, order := range allOrders() {
		for range 100 {
			p := scattered(&s, order, 1+s.below(4))
			for _, asked := range allOrders() {
				if falls(asked, p) {
					expectGet(t, asked, polyText(p), p, "", api.OK)
				} else {
					expectGet(t, asked, polyText(p), nil, "", api.ErrForm)
				}
			}
		}
	}
}

func TestGetByNoOrder(t *testing.T) {
	for _, order := range noOrders() {
		for _, p := range polynomials(api.Lex) {
			expectGet(t, order, polyText(p)+"b", nil, "", api.ErrForm)
		}
		expectGet(t, order, "", nil, "", api.ErrShort) // that it is none counts at last
		expectGet(t, order, "\x01", nil, "", api.ErrShort)
		expectGet(t, order, "\x01\x01", nil, "", api.ErrShort)
		expectGet(t, order, "\x01\x01"+ratText(number(1, 1))+"\x00\x00\x00", nil, "", api.ErrShort)
	}
}

func TestGetFirstError(t *testing.T) {
	good, half, wrong := termText(of(1, 1)), termText(of(1, 1))[:9], ratText(api.Rat{Num: api.Nat{2}, Den: api.Nat{2}})
	for _, x := range []struct {
		s   string
		err api.Errno
	}{
		{"\x01\x3d", api.ErrForm}, {"\x01\x00", api.ErrForm}, // and there are no terms
		{"\x01\x02" + wrong, api.ErrForm}, {"\x01\x01" + wrong + "\x00", api.ErrForm}, {"\x01\x02" + wrong + "\x00\x00\x00\x00" + half, api.ErrForm},
		{"\x01\x02" + good + wrong, api.ErrForm}, {"\x01\x03" + good + wrong + "\x00\x00\x00\x00", api.ErrForm}, {"\x01\x03" + good + "\x02", api.ErrForm},
		{"\x01\x02" + half, api.ErrShort}, {"\x01\x02" + good + half, api.ErrShort},
		// What the whole may not be counts behind what its bytes are not.
		{"\x01\x02" + ratText(number(1, 1)) + "\xff\xff\xff\xff" + half, api.ErrShort}, {"\x01\x03" + good + good, api.ErrShort},
		{"\x01\x03" + termText(of(1)) + good + half, api.ErrShort}, {"\x01\x02" + termText(term(zero(), 2)), api.ErrShort},
		{"\x01\x02" + termText(term(zero(), 2)) + wrong, api.ErrForm},
	} {
		for _, order := range append(allOrders(), noOrders()...) {
			expectGet(t, order, x.s, nil, "", x.err)
		}
	}
}

// P11.3

// lists may be by order.
func lists(order int) [][]api.Poly {
	all := polynomials(order)
	l := [][]api.Poly{nil, {}, {nil}, {{}}, {nil, nil, {}}, make([]api.Poly, mostPolys), slices.Repeat([]api.Poly{greatest()}, mostPolys)}
	for _, p := range all {
		l = append(l, []api.Poly{p}, []api.Poly{p, nil, p}, []api.Poly{distinct(2), p})
	}
	return append(l, all[:3], all[:mostPolys-1], all[:mostPolys])
}

func TestPutList(t *testing.T) {
	for _, order := range allOrders() {
		for _, l := range lists(order) {
			expectPutList(t, l, listText(l), api.OK)
		}
	}
	p := api.Poly{of(2, 1), term(number(-1, 3))}
	expectPutList(t, nil, "\x00", api.OK)
	expectPutList(t, []api.Poly{nil}, "\x01\x01\x00", api.OK)
	expectPutList(t, []api.Poly{p, nil, p}, "\x01\x03"+polyText(p)+"\x00"+polyText(p), api.OK)
	each := byOneOrder() // one order is not asked of all of them
	expectPutList(t, each[:], listText(each[:]), api.OK)
}

func TestPutListMany(t *testing.T) {
	for _, p := range []api.Poly{nil, distinct(1), distinct(mostTerms), {of(1), of(1)}} {
		_, err := Put(p)
		l := slices.Repeat([]api.Poly{p}, mostPolys)
		want := ""
		if err == api.OK {
			want = "\x01\x18" + listText(l)[2:]
		}
		expectPutList(t, l, want, err)
		for n := mostPolys + 1; n < mostPolys+10; n++ {
			expectPutList(t, slices.Repeat([]api.Poly{p}, n), "", api.ErrArg)
		}
		expectPutList(t, slices.Repeat([]api.Poly{p}, 300), "", api.ErrArg)
	}
}

func TestPutListWrong(t *testing.T) {
	for _, p := range wrongPolys() {
		for _, l := range [][]api.Poly{{p}, {p, p}, {nil, p}, {p, nil}, {distinct(3), p, distinct(2)}} {
			expectPutList(t, l, "", api.ErrArg)
		}
	}
	for n := 1; n <= mostPolys+2; n++ {
		for at := range n {
			l := slices.Repeat([]api.Poly{distinct(2)}, n)
			l[at] = api.Poly{{}}
			expectPutList(t, l, "", api.ErrArg)
		}
	}
}

func TestGetList(t *testing.T) {
	for _, order := range allOrders() {
		for _, l := range lists(order) {
			for _, behind := range behinds() {
				expectGetList(t, order, listText(l)+behind, l, behind, api.OK)
			}
		}
	}
}

func TestGetListCutOff(t *testing.T) {
	for _, order := range allOrders() {
		for _, l := range lists(order) {
			s := listText(l)
			for i := 0; i < len(s); i += 1 + len(s)/40 {
				expectGetList(t, order, s[:i], nil, "", api.ErrShort)
			}
		}
		s := listText([]api.Poly{byOneOrder()[order], nil, distinct(3)})
		for i := range len(s) {
			expectGetList(t, order, s[:i], nil, "", api.ErrShort)
		}
	}
}

func TestGetListHowMany(t *testing.T) {
	for _, x := range []struct {
		s   string
		err api.Errno
	}{
		{"", api.ErrShort}, {"\x01", api.ErrShort}, {"\x02\x01", api.ErrShort}, {"\x09", api.ErrForm}, {"\x01\x00", api.ErrForm}, {"\x02\x00\x01\x00", api.ErrForm},
		{"\x01\x18", api.ErrShort},
		{"\x01\x19", api.ErrForm}, {"\x01\x19" + strings.Repeat("\x00", 30), api.ErrForm}, {"\x01\x3c" + strings.Repeat("\x00", 80), api.ErrForm},
		{"\x02\x01\x00", api.ErrForm}, {"\x02\x01\x01\x00", api.ErrForm}, {"\x05\x01\x00\x00\x00\x01\x00", api.ErrForm}, // cut down to a byte these are few
		{"\x08\x80\x00\x00\x00\x00\x00\x00\x01\x00", api.ErrForm}, {"\x08" + strings.Repeat("\xff", 8), api.ErrForm},
	} {
		for _, order := range append(allOrders(), noOrders()...) {
			expectGetList(t, order, x.s, nil, "", x.err)
		}
	}
	for _, order := range allOrders() {
		expectGetList(t, order, "\x01\x18"+strings.Repeat("\x00", 23), nil, "", api.ErrShort)
		expectGetList(t, order, "\x01\x18"+strings.Repeat("\x00", 25), make([]api.Poly, mostPolys), "\x00", api.OK)
	}
}

func TestGetListByOrder(t *testing.T) {
	for order, p := range byOneOrder() {
		for _, asked := range allOrders() {
			for _, l := range [][]api.Poly{{p}, {p, p}, {nil, distinct(4), p}, {p, nil}} {
				if asked == order {
					expectGetList(t, asked, listText(l)+"b", l, "b", api.OK)
				} else {
					expectGetList(t, asked, listText(l)+"b", nil, "", api.ErrForm)
				}
			}
		}
	}
	each := byOneOrder()
	for _, order := range append(allOrders(), noOrders()...) {
		expectGetList(t, order, listText(each[:]), nil, "", api.ErrForm)
	}
	for _, order := range noOrders() {
		expectGetList(t, order, "\x01\x01\x00", nil, "", api.ErrForm)
		expectGetList(t, order, listText(polynomials(api.Lex)[:4]), nil, "", api.ErrForm)
		expectGetList(t, order, "\x00b", nil, "b", api.OK) // of no polynomial the order is not asked
	}
}

func TestGetListFirstError(t *testing.T) {
	good, short, twins, many := polyText(distinct(3)), polyText(distinct(1))[:7], polyText(api.Poly{of(1), of(1)}), "\x01\x3d"
	for _, x := range []struct {
		s   string
		err api.Errno
	}{
		{"\x01\x01" + short, api.ErrShort}, {"\x01\x01" + twins, api.ErrForm}, {"\x01\x01" + many, api.ErrForm},
		{"\x01\x02" + good + short, api.ErrShort}, {"\x01\x02" + good + twins, api.ErrForm}, {"\x01\x02" + good + many, api.ErrForm}, {"\x01\x02" + good, api.ErrShort},
		{"\x01\x02" + twins + short, api.ErrForm}, {"\x01\x02" + twins, api.ErrForm}, {"\x01\x02" + many + short, api.ErrForm}, // the first one's, as a whole
		{"\x01\x03" + good + twins + short, api.ErrForm}, {"\x01\x03" + good + many, api.ErrForm}, {"\x01\x03" + good + short, api.ErrShort},
		{"\x01\x19" + short, api.ErrForm}, {"\x01\x19", api.ErrForm},
	} {
		for _, order := range allOrders() {
			expectGetList(t, order, x.s, nil, "", x.err)
		}
	}
}

// P11.4

// What was put is got, one thing behind the other.
func TestWhatWasPutIsGot(t *testing.T) {
	for _, order := range allOrders() {
		all := ""
		for _, l := range lists(order) {
			s, err := PutList(l)
			first, _ := Put(slices.Concat(l, []api.Poly{nil})[0])
			all += s + first
			expectGetList(t, order, s, l, "", err)
		}
		for _, l := range lists(order) {
			got, rest, err := GetList(order, all)
			first, rest2, err2 := Get(order, rest)
			if !allIdentical(got, l) || err != api.OK || !identical(first, slices.Concat(l, []api.Poly{nil})[0]) || err2 != api.OK {
				t.Fatalf("%v: %v %d, %v %d", l, got, err, first, err2)
			}
			all = rest2
		}
		if all != "" {
			t.Errorf("%q is left", all)
		}
	}
}

// reput puts again what s begins by, in both ways: where it is got it is the very bytes of s, and fewer of
// them are none; where it is not, nothing is told. Got it is by no more than the orders that may be.
func reput(t *testing.T, s string) {
	t.Helper()
	for _, order := range append(allOrders(), 3) {
		p, behind, err := Get(order, s)
		l, behindList, errList := GetList(order, s)
		again, errAgain := Put(p)
		againList, errAgainList := PutList(l)
		if err == api.OK && (again+behind != s || errAgain != api.OK || !falls(order, p) || order == 3) {
			t.Errorf("Get %d %q: %v %q", order, s, p, behind)
		}
		if errList == api.OK && (againList+behindList != s || errAgainList != api.OK || !allFall(order, l) || order == 3 && len(l) > 0) {
			t.Errorf("GetList %d %q: %v %q", order, s, l, behindList)
		}
		if err != api.OK && (len(p) > 0 || behind != "" || !isBad(err)) || errList != api.OK && (len(l) > 0 || behindList != "" || !isBad(errList)) {
			t.Errorf("%d %q: %v %q %d, %v %q %d", order, s, p, behind, err, l, behindList, errList)
		}
	}
}

func allFall(order int, l []api.Poly) bool {
	return !slices.ContainsFunc(l, func(p api.Poly) bool { return !falls(order, p) })
}

func isBad(err api.Errno) bool { return err == api.ErrShort || err == api.ErrForm }

func TestShortBytesAreOfOneThing(t *testing.T) {
	for i := range 256 * 256 {
		reput(t, string([]byte{byte(i >> 8), byte(i)}))
	}
	alphabet := "\x00\x01\x02\x08\x09\x19\x3c\xff"
	for i := range 1 << 12 {
		s := make([]byte, 4)
		for k := range s {
			s[k] = alphabet[i>>(3*k)&7]
		}
		reput(t, string(s))
		reput(t, string(s)+polyText(distinct(2)))
		reput(t, string(s)+limbText(1)+rowText(api.Nat{1})+"\x00\x00\x01\x00")
	}
}

// Whatever one byte is turned into, or where bytes are left out, or more are put, what is got is what these bytes are of.
func TestTurnedBytesAreOfOneThing(t *testing.T) {
	var l []string
	for order, p := range byOneOrder() {
		l = append(l, polyText(p), listText([]api.Poly{p, nil, distinct(2)}))
		for _, q := range polynomials(order)[9:20] {
			l = append(l, polyText(q))
		}
	}
	for _, s := range l {
		for i := range len(s) {
			for _, b := range []byte{0, 1, 2, 3, 8, 9, top, top + 1, 255, s[i] + 1, s[i] - 1, s[i] ^ 128} {
				reput(t, s[:i]+string([]byte{b})+s[i+1:])
			}
			reput(t, s[:i]+s[i+1:])
			reput(t, s[:i]+"\x00"+s[i:])
		}
	}
}

// expectOwn asks that different things have different bytes, of which none begin another's.
func expectOwn[T any](t *testing.T, l []T, put func(T) (string, api.Errno), same func(a, b T) bool) {
	t.Helper()
	texts := make([]string, len(l))
	for i, thing := range l {
		texts[i], _ = put(thing)
	}
	for i, a := range texts {
		for k, b := range texts {
			if strings.HasPrefix(a, b) != same(l[i], l[k]) {
				t.Errorf("%v %v: %q %q", l[i], l[k], a, b)
			}
		}
	}
}

func TestThingsHaveBytesOfTheirOwn(t *testing.T) {
	for _, order := range allOrders() {
		expectOwn(t, polynomials(order), Put, identical)
		expectOwn(t, lists(order), PutList, allIdentical)
	}
}

// R3 and R5

func guardedRow(a api.Nat) api.Nat {
	return slices.Concat(a, api.Nat{11, 12, 13})[:len(a)]
}

// guarded is a copy of l with room behind each list's length that nobody may write to.
func guarded(l []api.Poly) []api.Poly {
	var all []api.Poly
	for _, p := range l {
		var q api.Poly
		for _, t := range p {
			q = append(q, term(api.Rat{Neg: t.C.Neg, Num: guardedRow(t.C.Num), Den: guardedRow(t.C.Den)}, t.M[:]...))
		}
		all = append(all, append(q, of(21), of(22, 1))[:len(q)])
	}
	return append(all, distinct(1), distinct(2))[:len(all)]
}

// kept tells whether guarded made l of want, and nobody changed it.
func kept(l, want []api.Poly) bool {
	if !allIdentical(l, want) || !allIdentical(l[len(l):len(l)+2], []api.Poly{distinct(1), distinct(2)}) {
		return false
	}
	row := func(a api.Nat) bool { return slices.Equal(a[len(a):len(a)+3], api.Nat{11, 12, 13}) }
	for _, p := range l {
		if !identical(p[len(p):len(p)+2], api.Poly{of(21), of(22, 1)}) {
			return false
		}
		if slices.ContainsFunc(p, func(t api.Term) bool { return !row(t.C.Num) || !row(t.C.Den) }) {
			return false
		}
	}
	return true
}

func TestNothingHandedInIsChanged(t *testing.T) {
	for _, order := range allOrders() {
		all := append(lists(order), wrongPolys(), wrongPolys()[:mostPolys], append(polynomials(order)[:5], wrongPolys()[0]))
		for _, want := range all {
			l := guarded(want)
			PutList(l)
			for _, p := range l {
				Put(p)
			}
			if !kept(l, want) {
				t.Fatalf("changed %v", want)
			}
		}
	}
}

// overwrite writes over all of p, also behind its length.
func overwrite(p api.Poly) {
	for _, t := range p {
		for _, a := range []api.Nat{t.C.Num[:cap(t.C.Num)], t.C.Den[:cap(t.C.Den)]} {
			for i := range a {
				a[i] = 77
			}
		}
	}
	p = p[:cap(p)]
	for i := range p {
		p[i] = api.Term{}
	}
}

// What was told is written over by who got it: what else was told stays, and the next one who asks is told the same.
func TestOneAnswer(t *testing.T) {
	for _, order := range allOrders() {
		for _, p := range polynomials(order) {
			s := polyText(p)
			got, _, _ := Get(order, s)
			overwrite(got)
			expectGet(t, order, s, p, "", api.OK)
		}
		for _, l := range lists(order) {
			s := listText(l)
			got, _, _ := GetList(order, s)
			for i, p := range got {
				if !identical(p, l[i]) {
					t.Errorf("%v: two of one answer share memory", l)
				}
				overwrite(p)
			}
			expectGetList(t, order, s, l, "", api.OK)
		}
	}
}
