package parse

import (
	"math"
	"math/big"
	"regexp"
	"slices"
	"strconv"
	"strings"
	"testing"

	"syzygy/api"
)

const (
	top       = api.MaxExp
	mostTerms = api.MaxTerms
	mostBits  = 64 * api.MaxLimbs
)

func allOrders() []int { return []int{api.Lex, api.Grlex, api.Grevlex} }

// noOrders are the numbers of none.
func noOrders() []int { return []int{-1, -2, 3, 4, 255, 256, 1 << 32, math.MaxInt, math.MinInt} }

// height is a number that is as great as m is high by order, worked out by other means than the layers' own.
func height(order int, m api.Mono) int {
	number := func(digits ...int) (n int) {
		for _, d := range digits {
			n = n*(4*top+1) + d
		}
		return n
	}
	degree := m[0] + m[1] + m[2] + m[3]
	switch order {
	case api.Lex:
		return number(m[0], m[1], m[2], m[3])
	case api.Grlex:
		return number(degree, m[0], m[1], m[2], m[3])
	default:
		return number(degree, top-m[3], top-m[2], top-m[1], top-m[0])
	}
}

// source tells numbers that hang on its seed alone.
type source uint64

func (s *source) below(n int) int {
	*s = *s*6364136223846793005 + 1442695040888963407
	return int(uint64(*s) >> 33 % uint64(n))
}

func (s *source) one(l ...string) string { return l[s.below(len(l))] }

// Numbers

func row(v *big.Int) api.Nat {
	var a api.Nat
	for left := new(big.Int).Set(v); left.Sign() > 0; left.Rsh(left, 64) {
		a = append(a, new(big.Int).And(left, new(big.Int).SetUint64(math.MaxUint64)).Uint64())
	}
	return a
}

// written is the one way to write a number.
func written(v *big.Rat) api.Rat {
	return api.Rat{Neg: v.Sign() < 0, Num: row(new(big.Int).Abs(v.Num())), Den: row(v.Denom())}
}

func frac(n, d int64) api.Rat { return written(big.NewRat(n, d)) }

// power2 is the text of 2^k and some.
func power2(k uint, some int64) string {
	n := new(big.Int).Lsh(big.NewInt(1), k)
	return n.Add(n, big.NewInt(some)).String()
}

// most is the text of the greatest natural that may be, over of the next one, half of half of that.
func most() string { return power2(mostBits, -1) }
func over() string { return power2(mostBits, 0) }
func half() string { return power2(mostBits-1, 0) }

func nines(n int) string { return strings.Repeat("9", n) }

// Terms

func term(c api.Rat, m ...int) api.Term {
	t := api.Term{C: c}
	copy(t.M[:], m)
	return t
}

// of is a term with a whole number.
func of(n int64, m ...int) api.Term { return term(frac(n, 1), m...) }

// distinct are n terms, none of 0; each monomial is divided by the next one, so they fall by each order.
func distinct(n int) api.Poly {
	l := make(api.Poly, n)
	for i := range l {
		k := n - 1 - i
		l[i] = of(int64(i%7)-9, k/4, (k+1)/4, (k+2)/4, (k+3)/4)
	}
	return l
}

// scattered is a polynomial of n terms by order; its numbers have up to so many bits.
func scattered(s *source, order, n, bits int) api.Poly {
	number := func() *big.Int {
		v := big.NewInt(1)
		for range s.below(bits) {
			v.Lsh(v, 1).Add(v, big.NewInt(int64(s.below(2))))
		}
		return v
	}
	seen := map[api.Mono]int{}
	var p api.Poly
	for range n {
		var m api.Mono
		for i := range m {
			m[i] = max(s.below(top+11)-10, 0)
		}
		if seen[m]++; seen[m] > 1 {
			continue
		}
		c := new(big.Rat).SetInt(number())
		if s.below(2) == 0 {
			c.SetFrac(number(), number())
		}
		if s.below(2) == 0 {
			c.Neg(c)
		}
		p = append(p, api.Term{C: written(c), M: m})
	}
	slices.SortFunc(p, func(a, b api.Term) int { return height(order, b.M) - height(order, a.M) })
	return p
}

// identical holds polynomials against each other limb by limb.
func identical(p, q api.Poly) bool {
	return slices.EqualFunc(p, q, func(a, b api.Term) bool {
		return a.M == b.M && a.C.Neg == b.C.Neg && slices.Equal(a.C.Num, b.C.Num) && slices.Equal(a.C.Den, b.C.Den)
	})
}

// Texts, told by other means: a pattern says whether one is a sum, and its
// numbers are put together by math/big.

type model map[api.Mono]*big.Rat

func grammar() *regexp.Regexp {
	number := `(0|[1-9][0-9]*)`
	factor := `(` + number + `( */ *` + number + `)?|[xyzw]( *\^ *` + number + `)?)`
	product := factor + `( *\* *` + factor + `)*`
	return regexp.MustCompile(`^ *(- *)?` + product + `( *[+-] *` + product + `)* *$`)
}

var sums = grammar()

func great(l ...*big.Int) bool {
	return slices.ContainsFunc(l, func(v *big.Int) bool { return v.BitLen() > mostBits })
}

func times(a, b *big.Int) *big.Int { return new(big.Int).Mul(a, b) }

func whole(s string) *big.Int {
	v, _ := new(big.Int).SetString(s, 10)
	return v
}

// number multiplies c by a factor that is a number.
func number(c *big.Rat, factor string) api.Errno {
	upper, lower, two := strings.Cut(factor, "/")
	if !two {
		lower = "1"
	}
	num, den := whole(upper), whole(lower)
	if great(num) || great(den) {
		return api.ErrBig
	}
	if den.Sign() == 0 {
		return api.ErrZero
	}
	by := new(big.Rat).SetFrac(num, den)
	if great(times(c.Num(), by.Num()), times(c.Denom(), by.Denom())) {
		return api.ErrBig
	}
	c.Mul(c, by)
	return api.OK
}

// variable multiplies m by a factor that is a variable.
func variable(m *api.Mono, factor string) api.Errno {
	letter, exponent, two := strings.Cut(factor, "^")
	if !two {
		exponent = "1"
	}
	at := strings.Index("xyzw", letter)
	most := big.NewInt(int64(top - m[at]))
	if whole(exponent).Cmp(most) > 0 {
		return api.ErrExp
	}
	m[at] += int(whole(exponent).Int64())
	return api.OK
}

// put adds a term to those of its monomial.
func (l model) put(m api.Mono, c *big.Rat) api.Errno {
	if l[m] == nil {
		l[m] = c
		return api.OK
	}
	one, other, den := times(l[m].Num(), c.Denom()), times(c.Num(), l[m].Denom()), times(l[m].Denom(), c.Denom())
	if great(one, other, den, new(big.Int).Add(one, other)) {
		return api.ErrBig
	}
	l[m].Add(l[m], c)
	return api.OK
}

// products cuts a sum without blanks ahead of each sign.
func products(s string) []string {
	var l []string
	start := 0
	for i := 1; i <= len(s); i++ {
		if i == len(s) || s[i] == '+' || s[i] == '-' {
			l = append(l, s[start:i])
			start = i
		}
	}
	return l
}

// asked is what Parse must tell.
func asked(order int, s string) (api.Poly, api.Errno) {
	if order < 0 || order > 2 {
		return nil, api.ErrArg
	}
	if len(s) > 2000 || !sums.MatchString(s) {
		return nil, api.ErrText
	}
	var ms []api.Mono
	var cs []*big.Rat
	for _, p := range products(strings.ReplaceAll(s, " ", "")) {
		m, c, err := api.Mono{}, big.NewRat(1, 1), api.OK
		for factor := range strings.SplitSeq(strings.TrimLeft(p, "+-"), "*") {
			if strings.Contains("xyzw", factor[:1]) {
				err = variable(&m, factor)
			} else {
				err = number(c, factor)
			}
			if err != api.OK {
				return nil, err
			}
		}
		if p[0] == '-' {
			c.Neg(c)
		}
		ms, cs = append(ms, m), append(cs, c)
	}
	l := model{}
	for i := range ms {
		if err := l.put(ms[i], cs[i]); err != api.OK {
			return nil, err
		}
	}
	return l.poly(order)
}

func (l model) poly(order int) (api.Poly, api.Errno) {
	var p api.Poly
	for m, c := range l {
		if c.Sign() != 0 {
			p = append(p, api.Term{C: written(c), M: m})
		}
	}
	if len(p) > mostTerms {
		return nil, api.ErrTerms
	}
	slices.SortFunc(p, func(a, b api.Term) int { return height(order, b.M) - height(order, a.M) })
	return p, api.OK
}

// What is expected

func short(s string) string {
	if len(s) > 60 {
		return strconv.Quote(s[:60]) + "... of " + strconv.Itoa(len(s))
	}
	return strconv.Quote(s)
}

// parsed asks for what the model tells, and tells it.
func parsed(t *testing.T, order int, s string) (api.Poly, api.Errno) {
	t.Helper()
	p, err := Parse(order, s)
	want, wantErr := asked(order, s)
	if err != wantErr || !identical(p, want) {
		t.Errorf("Parse %d %s: %v %d, want %v %d", order, short(s), p, err, want, wantErr)
	}
	return p, err
}

// told asks for a polynomial, by each order by which it may be.
func told(t *testing.T, s string, want api.Poly) {
	t.Helper()
	for _, order := range allOrders() {
		slices.SortFunc(want, func(a, b api.Term) int { return height(order, b.M) - height(order, a.M) })
		if p, err := parsed(t, order, s); err != api.OK || !identical(p, want) {
			t.Errorf("Parse %d %s: %v %d, want %v", order, short(s), p, err, want)
		}
	}
}

func refused(t *testing.T, s string, want api.Errno) {
	t.Helper()
	for _, order := range allOrders() {
		if p, err := parsed(t, order, s); err != want || len(p) != 0 {
			t.Errorf("Parse %d %s: %v %d, want nothing and %d", order, short(s), p, err, want)
		}
	}
}

// noSums are of no form that the chapter names.
func noSums() []string {
	l := []string{
		"", " ", "     ", "1 2", "12 3*x", "x y", "xy", "2x", "x2", "2 x", // nothing, or nothing between
		"/", "1/", "/2", "1/ ", "1//2", "1/x", "x/2", "x/y", "1/2/3", "1/-2", "x^2/3", "1/+2",
		"^", "x^", "^2", "x^ ", "x^^2", "x^y", "x^-1", "x^+1", "x^2^3", "2^3", "1/2^3", "x^1/2", "x ^",
		"*", "x*", "*x", "2*", "*2", "x**y", "x* ", "x*/2", "2/*x", "x^*2", "x*^2",
		"+", "-", "x+", "x-", "x + ", "x - ", "+x", "+ x", "+1", "-", "- ", "--x", "- -x", "-+x", "+-x",
		"x--y", "x++y", "x+-y", "x-+y", "x - - y", "x*-y", "2*+3", "x+*y", "x*+y", "x-/2", "x+^2", "- *x",
		"00", "01", "007", "0 0", "x^00", "x^01", "1/01", "1/00", "01/2", "x*00", "00*x",
		"a", "X", "Y", "Z", "W", "v", "u", "2*a", "x*b", "o", "l", "x1", "(x)", "x.5", "1.5", "1e5", "0x1", "1_0",
		"x\ty", "\tx", "x\n", "\rx", "x\x00", "\x00", "x;", ";x", "x;y", "x,y", "x=y", "\u00a0x", "x\u2212y", "x²", "\uff11", "\xff",
	}
	return append(l, strings.Repeat("0", 300), "0"+nines(300), "x^0"+nines(300), "1/0"+nines(300), nines(300)+" 9")
}

// faults are products with an error each.
func faults() map[string]api.Errno {
	return map[string]api.Errno{
		"1/0": api.ErrZero, "0/0": api.ErrZero, "x*7/0": api.ErrZero,
		"x^41": api.ErrExp, "y^40*y": api.ErrExp, "w^" + nines(300): api.ErrExp,
		over(): api.ErrBig, "1/" + over(): api.ErrBig, over() + "/0": api.ErrBig, half() + "*2": api.ErrBig,
	}
}

// P10.1

func TestParseExample(t *testing.T) {
	p, err := Parse(api.Lex, "1 + 2*x*x - 4/6 * y")
	if !identical(p, api.Poly{of(2, 2), term(frac(-2, 3), 0, 1), of(1)}) || err != api.OK {
		t.Errorf("%v %d", p, err)
	}
}

func TestParse(t *testing.T) {
	for _, x := range []struct {
		s    string
		want api.Poly
	}{
		{"x", api.Poly{of(1, 1)}}, {"y", api.Poly{of(1, 0, 1)}}, {"z", api.Poly{of(1, 0, 0, 1)}}, {"w", api.Poly{of(1, 0, 0, 0, 1)}},
		{"1", api.Poly{of(1)}}, {"-1", api.Poly{of(-1)}}, {"10", api.Poly{of(10)}}, {"907", api.Poly{of(907)}},
		{"0", nil}, {"-0", nil}, {"0/5", nil}, {"0*x", nil}, {"-x*0", nil}, {"0 + 0", nil}, {"x - x", nil}, {"1 - 1", nil},
		{"x^0", api.Poly{of(1)}}, {"x^1", api.Poly{of(1, 1)}}, {"x^2*y^3*z^4*w^5", api.Poly{of(1, 2, 3, 4, 5)}},
		{"w*z*y*x", api.Poly{of(1, 1, 1, 1, 1)}}, {"x*x*x", api.Poly{of(1, 3)}}, {"x^2*y*x^3*y", api.Poly{of(1, 5, 2)}},
		{"1/2", api.Poly{term(frac(1, 2))}}, {"4/6", api.Poly{term(frac(2, 3))}}, {"7/7*x", api.Poly{of(1, 1)}}, {"12/4", api.Poly{of(3)}},
		{"2*3", api.Poly{of(6)}}, {"2*x*3*y*4", api.Poly{of(24, 1, 1)}}, {"1/2*1/3*x", api.Poly{term(frac(1, 6), 1)}}, {"2/3*3/2", api.Poly{of(1)}},
		{"x*1/2", api.Poly{term(frac(1, 2), 1)}}, {"x*3*1/3", api.Poly{of(1, 1)}},
		{"-x", api.Poly{of(-1, 1)}}, {"-2*x", api.Poly{of(-2, 1)}}, {"-1/3*y^2", api.Poly{term(frac(-1, 3), 0, 2)}},
		{"x + y", api.Poly{of(1, 1), of(1, 0, 1)}}, {"y + x", api.Poly{of(1, 1), of(1, 0, 1)}}, {"x - y", api.Poly{of(1, 1), of(-1, 0, 1)}},
		{"-x - y", api.Poly{of(-1, 1), of(-1, 0, 1)}}, {"-x + y", api.Poly{of(-1, 1), of(1, 0, 1)}}, {"1-x-x", api.Poly{of(-2, 1), of(1)}},
		{"x + x", api.Poly{of(2, 1)}}, {"x + 1/2*x - 3*x", api.Poly{term(frac(-3, 2), 1)}}, {"x*y - y*x + z", api.Poly{of(1, 0, 0, 1)}},
		{"x + y - x + x", api.Poly{of(1, 1), of(1, 0, 1)}}, {"1/2 + 1/3 + 1/6", api.Poly{of(1)}}, {"1/2 - 2/4", nil},
		{"x^2 + y^9", api.Poly{of(1, 2), of(1, 0, 9)}}, {"x*w^2 + y^3 + z", api.Poly{of(1, 1, 0, 0, 2), of(1, 0, 3), of(1, 0, 0, 1)}},
	} {
		told(t, x.s, x.want)
	}
}

func TestParseByEachOrder(t *testing.T) {
	for order, want := range []string{"x*z^2 + x + y^3 + 1", "x*z^2 + y^3 + x + 1", "y^3 + x*z^2 + x + 1"} {
		for _, s := range []string{"x*z^2 + x + y^3 + 1", "1 + y^3 + x + z*x*z", "y*y*y + 1 + x + z^2*x"} {
			p, err := parsed(t, order, s)
			if got := Print(p); got != want || err != api.OK {
				t.Errorf("Parse %d %s: %s %d, want %s", order, s, got, err, want)
			}
		}
	}
}

func TestParseByNoOrder(t *testing.T) {
	texts := append(noSums(), "x", "0", "1 + 2*x", strings.Repeat(" ", 2000)+"x")
	for s := range faults() {
		texts = append(texts, s)
	}
	for _, order := range noOrders() {
		for _, s := range texts {
			if p, err := Parse(order, s); err != api.ErrArg || len(p) != 0 {
				t.Errorf("Parse %d %s: %v %d", order, short(s), p, err)
			}
		}
	}
}

func TestParseLength(t *testing.T) {
	pad := func(s string, n int) []string {
		blanks := strings.Repeat(" ", n-len(s))
		return []string{blanks + s, s + blanks, strings.Replace(s, "+", "+"+blanks, 1)}
	}
	for _, n := range []int{1999, 2000, 2001, 2002, 5000} {
		texts := append(pad("x+y", n), strings.Repeat("x+", (n-1)/2)+"x", "x"+strings.Repeat("*1", (n-1)/2), strings.Repeat("1", n))
		for _, s := range append(texts, pad("1/0+x", n)...) {
			_, err := parsed(t, api.Lex, s)
			if len(s) <= 2000 && err == api.ErrText || len(s) > 2000 && err != api.ErrText {
				t.Errorf("Parse of %d bytes: %d", len(s), err)
			}
		}
	}
}

func TestParseNoSum(t *testing.T) {
	for _, s := range noSums() {
		refused(t, s, api.ErrText)
		refused(t, " "+s+" ", api.ErrText)
	}
	for _, s := range noSums() { // where blanks or a number behind make a sum of it, the model knows
		for _, other := range []string{"x + " + s, s + " + x", "2*" + s, s + "*2", "-" + s} {
			parsed(t, api.Lex, other)
		}
	}
}

// That a text is no sum counts ahead of all that is told.
func TestParseNoSumFirst(t *testing.T) {
	for s := range faults() {
		refused(t, s+" + ", api.ErrText)
		refused(t, s+" + a", api.ErrText)
		refused(t, s+"*y +* z", api.ErrText)
		refused(t, "+"+s, api.ErrText)
		refused(t, s+strings.Repeat(" ", 2000), api.ErrText)
	}
	many := strings.Repeat(over()+"+", 5)
	refused(t, many+"x^", api.ErrText)
	refused(t, sixtyOne()+"+", api.ErrText)
}

// Blanks count nothing, but within a number.
func TestParseBlanks(t *testing.T) {
	const s = "-12/35*x*y^17-4*z+w^0*2"
	want, _ := Parse(api.Lex, s)
	for _, blanks := range []string{" ", "  ", strings.Repeat(" ", 500)} {
		for at := range len(s) + 1 {
			digits := at > 0 && at < len(s) && strings.Contains("0123456789", s[at-1:at]) && strings.Contains("0123456789", s[at:at+1])
			with := s[:at] + blanks + s[at:]
			p, err := parsed(t, api.Lex, with)
			if digits && err != api.ErrText || !digits && (err != api.OK || !identical(p, want)) {
				t.Errorf("%q: %v %d", with, p, err)
			}
		}
	}
	told(t, " 1 / 2 * x ^ 3 - y ", api.Poly{term(frac(1, 2), 3), of(-1, 0, 1)})
}

// Each byte at each place, more than there was, or for what there was.
func TestParseEachByte(t *testing.T) {
	for _, s := range []string{"x", "-2/3*x^4*y + 10", "5 - z*w^2"} {
		for b := range 256 {
			byteText := string([]byte{byte(b)})
			for at := range len(s) + 1 {
				parsed(t, api.Grlex, s[:at]+byteText+s[at:])
				if at < len(s) {
					parsed(t, api.Grevlex, s[:at]+byteText+s[at+1:])
				}
			}
		}
	}
}

// All texts of few bytes that mean something.
func TestParseAllShort(t *testing.T) {
	const bytes = "x20/^*+- "
	texts := []string{""}
	for range 5 {
		var longer []string
		for _, s := range texts {
			for i := range len(bytes) {
				longer = append(longer, s+bytes[i:i+1])
			}
		}
		texts = longer
		for _, s := range texts {
			parsed(t, api.Lex, s)
		}
	}
}

func TestParseGreatNumbers(t *testing.T) {
	full := written(new(big.Rat).SetInt(whole(most())))
	told(t, most(), api.Poly{term(full)})
	told(t, "-"+most()+"*x", api.Poly{term(api.Rat{Neg: true, Num: full.Num, Den: api.Nat{1}}, 1)})
	told(t, "1/"+most(), api.Poly{term(api.Rat{Num: api.Nat{1}, Den: full.Num})})
	told(t, most()+"/"+most(), api.Poly{of(1)})
	told(t, "0/"+most(), nil)
	for _, s := range []string{over(), power2(mostBits, 1), nines(155), nines(200), nines(201), nines(1000), "1" + strings.Repeat("0", 199), "1" + strings.Repeat("0", 200)} {
		for _, with := range []string{s, "-" + s, "x*" + s, "0*" + s, s + "/1", s + "/0", "1/" + s, "0/" + s, s + "/" + s, "1 - 2*1/" + s} {
			if len(with) <= 2000 {
				refused(t, with, api.ErrBig)
			}
		}
		refused(t, "x^"+s, api.ErrExp)
		refused(t, "0*x^"+s, api.ErrExp)
	}
}

func TestParseByZero(t *testing.T) {
	for _, s := range []string{"1/0", "0/0", "-1/0", "x*5/0", "5/0*x", "0*1/0", "x - x + 1/0", most() + "/0", "1 / 0"} {
		refused(t, s, api.ErrZero)
	}
	told(t, "0/1 + x", api.Poly{of(1, 1)})
	refused(t, over()+"/0", api.ErrBig) // the upper one first
}

func TestParseExponents(t *testing.T) {
	for i, v := range []string{"x", "y", "z", "w"} {
		var m [4]int
		m[i] = top
		want := api.Poly{term(frac(1, 1), m[:]...)}
		for _, s := range []string{v + "^40", v + "^39*" + v, v + "^20*" + v + "^20", v + "^0*" + v + "^40", strings.Repeat(v+"*", 39) + v} {
			told(t, s, want)
		}
		for _, s := range []string{"^41", "^40*V", "*V^40", "^20*V^21", "^42", "^100", "^255", "^256", "^4294967296", "^18446744073709551616", "^18446744073709551617", "^" + nines(25), "^9223372036854775808"} {
			refused(t, v+strings.ReplaceAll(s, "V", v), api.ErrExp)
		}
		refused(t, strings.Repeat(v+"*", 40)+v, api.ErrExp)
		refused(t, "0*"+v+"^41", api.ErrExp)
	}
	told(t, "x^40*y^40*z^40*w^40", api.Poly{of(1, top, top, top, top)})
	told(t, "x^40 - y^40", api.Poly{of(1, top), of(-1, 0, top)})
}

// Room is asked for of each product on the way.
func TestParseNeedsRoom(t *testing.T) {
	root := power2(mostBits/2, 0)
	for _, s := range []string{half() + "*2", "2*" + half(), root + "*" + root, "1/" + half() + "*1/2", "x*1/" + root + "*1/" + root, half() + "*2*0", half() + "*2*1/2", half() + "*3*1/3*x"} {
		refused(t, s, api.ErrBig)
	}
	full := written(new(big.Rat).SetInt(whole(half())))
	for _, s := range []string{half() + "*1", half() + "*1/2*2", half() + "*2/4*2", "1/2*" + half() + "*2", root + "*" + power2(mostBits/2-1, 0), "-0*2 + " + half()} {
		told(t, s, api.Poly{term(full)})
	}
	told(t, half()+"*0*2", nil)
}

// Make's room, behind all products.
func TestParseSumNeedsRoom(t *testing.T) {
	for _, s := range []string{most() + " + 1", "1 + " + most(), "x - " + most() + " - 1", most() + "*x + x", most() + " + 1 - 1", "1/" + most() + " - 1/" + half()} {
		refused(t, s, api.ErrBig)
	}
	told(t, most()+" - 1 + 1", api.Poly{term(written(new(big.Rat).SetInt(whole(most()))))})
	for s, err := range faults() {
		refused(t, most()+" + 1 + "+s, err)
		if len(sixtyOne()+s) < 1999 {
			refused(t, sixtyOne()+"+"+s, err)
		}
	}
	refused(t, sixtyOne()+"+"+most()+"+1", api.ErrBig)
	refused(t, most()+"+1+"+sixtyOne(), api.ErrBig)
}

// sixty is a sum of just as many terms as may be, none of them 1.
func sixty() string {
	var l []string
	for i := range mostTerms {
		l = append(l, "x^"+strconv.Itoa(i%8)+"*y^"+strconv.Itoa(i/8+1))
	}
	return strings.Join(l, "+")
}

func sixtyOne() string { return sixty() + "+z" }

func TestParseCountsTerms(t *testing.T) {
	for _, order := range allOrders() {
		for _, s := range []string{sixty(), sixty() + "+x^3*y", sixty() + "+z-z", "z+" + sixty() + "-z", sixty() + "+0*z", sixtyOne() + "-y"} {
			if p, err := parsed(t, order, s); len(p) < mostTerms-1 || err != api.OK {
				t.Errorf("%s: %d terms, %d", s, len(p), err)
			}
		}
	}
	refused(t, sixtyOne(), api.ErrTerms)
	refused(t, "1 - "+sixty(), api.ErrTerms)
	refused(t, sixtyOne()+"+w-x*y", api.ErrTerms)
}

// Of two errors that of the first product, and of the first factor, is told.
func TestParseFirstError(t *testing.T) {
	for one, err := range faults() {
		for other := range faults() {
			refused(t, one+" + "+other, err)
			refused(t, "1 - "+one+" - x - "+other, err)
		}
	}
	factors := map[string]api.Errno{"1/0": api.ErrZero, over() + "/0": api.ErrBig, "1/" + over(): api.ErrBig, "x^41": api.ErrExp, "y^" + over(): api.ErrExp}
	for one, err := range factors {
		for other := range factors {
			refused(t, one+"*"+other, err)
			refused(t, "z*"+one+"*2*"+other, err)
		}
	}
	refused(t, half()+"*2*1/0", api.ErrBig)
	refused(t, half()+"*1/0*2", api.ErrZero)
	refused(t, "x^40*x*1/0", api.ErrExp)
	refused(t, "x^40*1/0*x", api.ErrZero)
}

// anySum is a text that is one, mostly; now and then a byte of it is changed.
func anySum(s *source) string {
	digits := func() string {
		return s.one("0", "1", "2", "3", "12", "40", "41", "100", half(), most(), over(), power2(uint(s.below(300)), int64(s.below(5))))
	}
	small := func() string { return s.one("0", "1", "2", "3", "5", "10", "38", "40", "41") }
	factor := func() string {
		switch s.below(6) {
		case 0:
			return digits()
		case 1:
			return small() + s.one("/", " /", "/ ") + digits()
		case 2:
			return small()
		case 3:
			return s.one("x", "y", "z", "w") + s.one("^", " ^ ") + small()
		default:
			return s.one("x", "y", "z", "w")
		}
	}
	text := s.one("", "", "-", " - ")
	for i := range 1 + s.below(5) {
		if i > 0 {
			text += s.one(" + ", " - ", "+", "-")
		}
		text += factor()
		for range s.below(4) {
			text += s.one("*", " * ") + factor()
		}
	}
	if s.below(8) == 0 {
		at := s.below(len(text))
		text = text[:at] + s.one("", " ", "x", "0", "*", "^", "/", "+", "-", "1") + text[at+1:]
	}
	return text
}

func TestParseOfMany(t *testing.T) {
	s := source(10)
	counts := map[api.Errno]int{}
	for i := range 30000 {
		_, err := parsed(t, i%3, anySum(&s))
		counts[err]++
	}
	for _, err := range []api.Errno{api.OK, api.ErrText, api.ErrBig, api.ErrZero, api.ErrExp} {
		if counts[err] < 500 {
			t.Errorf("only %d texts with %d", counts[err], err)
		}
	}
}

// P10.2

func printed(t *testing.T, p api.Poly, want string) {
	t.Helper()
	if got := Print(p); got != want {
		t.Errorf("Print %v: %q, want %q", p, got, want)
	}
}

func TestPrint(t *testing.T) {
	third := frac(-1, 3)
	printed(t, nil, "0")
	printed(t, api.Poly{}, "0")
	for _, x := range []struct {
		t    api.Term
		want string // without sign, as it is the first one
	}{
		{of(1), "1"}, {of(7), "7"}, {of(120), "120"}, {term(frac(1, 3)), "1/3"}, {term(frac(22, 7)), "22/7"},
		{of(1, 1), "x"}, {of(1, 0, 1), "y"}, {of(1, 0, 0, 1), "z"}, {of(1, 0, 0, 0, 1), "w"},
		{of(1, 2), "x^2"}, {of(1, 40), "x^40"}, {of(1, 0, 10), "y^10"}, {of(1, 0, 0, 0, 3), "w^3"},
		{of(1, 1, 1, 1, 1), "x*y*z*w"}, {of(1, 1, 2, 1, 4), "x*y^2*z*w^4"}, {of(1, 40, 40, 40, 40), "x^40*y^40*z^40*w^40"},
		{of(2, 1), "2*x"}, {of(3, 0, 1, 2), "3*y*z^2"}, {of(11, 1), "11*x"}, {of(10, 0, 1), "10*y"},
		{term(frac(1, 2), 1), "1/2*x"}, {term(frac(5, 11), 0, 0, 3, 1), "5/11*z^3*w"}, {term(frac(1, 11), 0, 2), "1/11*y^2"},
		{term(written(new(big.Rat).SetInt(whole(most()))), 1), most() + "*x"},
		{term(written(new(big.Rat).SetFrac(big.NewInt(1), whole(most()))), 0, 2), "1/" + most() + "*y^2"},
	} {
		minus := x.t
		minus.C.Neg = true
		printed(t, api.Poly{x.t}, x.want)
		printed(t, api.Poly{minus}, "-"+x.want)
		lead := of(1, top, top, top, top)
		if x.t.M == lead.M {
			continue
		}
		const first = "x^40*y^40*z^40*w^40"
		printed(t, api.Poly{lead, x.t}, first+" + "+x.want)
		printed(t, api.Poly{lead, minus}, first+" - "+x.want)
		lead.C = third
		printed(t, api.Poly{lead, x.t}, "-1/3*"+first+" + "+x.want)
		printed(t, api.Poly{lead, minus}, "-1/3*"+first+" - "+x.want)
	}
	printed(t, api.Poly{of(2, 2), term(frac(-2, 3), 0, 1), of(1)}, "2*x^2 - 2/3*y + 1")
	printed(t, api.Poly{of(-1, 3), of(-1, 2), of(1, 1), of(-1)}, "-x^3 - x^2 + x - 1")
}

// In order of the terms, which may be of one order alone.
func TestPrintByOneOrder(t *testing.T) {
	printed(t, api.Poly{of(1, 1), of(1, 0, 9)}, "x + y^9")
	printed(t, api.Poly{of(1, 0, 9), of(1, 1)}, "y^9 + x")
	printed(t, api.Poly{of(1, 1), of(1, 0, 3), of(1, 0, 0, 9)}, "x + y^3 + z^9")                              // Lex
	printed(t, api.Poly{of(1, 1, 0, 2), of(-1, 0, 3), of(1, 1, 1), of(4, 0, 2)}, "x*z^2 - y^3 + x*y + 4*y^2") // Grlex
	printed(t, api.Poly{of(1, 0, 3), of(1, 1, 0, 2), of(5)}, "y^3 + x*z^2 + 5")                               // Grevlex
}

// mayNots are none by any order.
func mayNots() []api.Poly {
	unit, tooLong := api.Nat{1}, append(make(api.Nat, api.MaxLimbs), 1)
	l := []api.Poly{
		{{}}, {of(0)}, {of(0, 1)}, {of(1, 1), of(0)}, {of(1, 1), of(1, 1)}, {of(1), of(1, 1)}, {of(1), of(-1)},
		{of(1, 1, 0, 2), of(1, 2), of(1, 0, 3)}, {of(1, 0, 3), of(1, 2), of(1, 1, 0, 2)}, // rising by each order
		distinct(mostTerms + 1), distinct(2 * mostTerms),
	}
	for _, c := range []api.Rat{
		{}, {Num: unit}, {Neg: true, Den: unit}, {Num: api.Nat{2}, Den: api.Nat{4}}, {Num: api.Nat{3}, Den: api.Nat{3}},
		{Num: api.Nat{0}, Den: unit}, {Num: api.Nat{1, 0}, Den: unit}, {Num: unit, Den: api.Nat{1, 0}}, {Num: tooLong, Den: unit}, {Num: unit, Den: tooLong},
	} {
		l = append(l, api.Poly{term(c, 1)}, api.Poly{of(1, 2), term(c, 1)}, api.Poly{term(c, 1), of(2)})
	}
	for _, n := range []int{-1, top + 1, 256, math.MaxInt, math.MinInt} {
		l = append(l, api.Poly{of(1, n)}, api.Poly{of(1, 1, 0, 0, n)}, api.Poly{of(1, top), of(1, 0, n)})
	}
	return l
}

func TestPrintOfWhatMayNotBe(t *testing.T) {
	for _, p := range mayNots() {
		printed(t, p, "")
	}
	if Print(distinct(mostTerms)) == "" {
		t.Error("just as many terms as may be: nothing")
	}
}

// P10.3

func listed(t *testing.T, order int, s string, want ...string) {
	t.Helper()
	l, err := List(order, s)
	var got []string
	for _, p := range l {
		got = append(got, Print(p))
	}
	if err != api.OK || !slices.Equal(got, want) {
		t.Errorf("List %d %s: %q %d, want %q", order, short(s), got, err, want)
	}
}

func notListed(t *testing.T, order int, s string, want api.Errno) {
	t.Helper()
	if l, err := List(order, s); err != want || len(l) != 0 {
		t.Errorf("List %d %s: %v %d, want nothing and %d", order, short(s), l, err, want)
	}
}

func TestList(t *testing.T) {
	blanks := strings.Repeat(" ", 3000)
	for _, order := range allOrders() {
		for _, s := range []string{"", " ", ";", ";;", " ; ; ", strings.Repeat(";", 100), strings.Repeat(" ;", 100), blanks, blanks + ";" + blanks} {
			listed(t, order, s)
		}
		listed(t, order, "x", "x")
		listed(t, order, "x;", "x")
		listed(t, order, ";x", "x")
		listed(t, order, " x ; ; y - 1;", "x", "y - 1")
		listed(t, order, blanks+";x;"+blanks, "x")
		listed(t, order, "0", "0")
		listed(t, order, "0;0;x-x", "0", "0", "0")
		listed(t, order, "y;x;y;x", "y", "x", "y", "x")
		listed(t, order, "1;2;3;4;5;6", "1", "2", "3", "4", "5", "6")
		listed(t, order, ";1;;2; ;3;4;;;5;6; ;", "1", "2", "3", "4", "5", "6")
	}
	listed(t, api.Lex, "y^9 + x; 2*x*x", "x + y^9", "2*x^2")
	listed(t, api.Grlex, "x + y^9; x*z^2 + y^3", "y^9 + x", "x*z^2 + y^3")
	listed(t, api.Grevlex, "x + y^9; x*z^2 + y^3", "y^9 + x", "y^3 + x*z^2")
}

// Each part has room of its own.
func TestListLength(t *testing.T) {
	full := "x" + strings.Repeat(" ", 1999)
	listed(t, api.Lex, strings.Join([]string{full, full, full, full, full, full}, ";"), "x", "x", "x", "x", "x", "x")
	notListed(t, api.Lex, "x;"+full+" ;x", api.ErrText)
	notListed(t, api.Lex, full+" ", api.ErrText)
}

func TestListErrors(t *testing.T) {
	for _, order := range allOrders() {
		notListed(t, order, "a", api.ErrText)
		notListed(t, order, "x\n;y", api.ErrText)
		notListed(t, order, "\t", api.ErrText) // no blank
		notListed(t, order, "x;\x00;y", api.ErrText)
		notListed(t, order, "x,y", api.ErrText)
		notListed(t, order, sixty()+";"+sixtyOne(), api.ErrTerms)
		for one, err := range faults() {
			notListed(t, order, one, err)
			notListed(t, order, "x;;"+one+";y", err)
			notListed(t, order, one+";a", err)
			notListed(t, order, "1;2;3;4;5;"+one, err)
			for other, otherErr := range faults() {
				notListed(t, order, "x;"+one+";"+other, err)
				notListed(t, order, other+"; ;"+one, otherErr)
			}
		}
		notListed(t, order, "a;1/0", api.ErrText)
	}
}

// More polynomials than may be count ahead of the errors of any of them.
func TestListCounts(t *testing.T) {
	for _, order := range append(allOrders(), noOrders()...) {
		for _, s := range []string{"1;2;3;4;5;6;7", "1;2;3;4;5;6;0", "1;2;3;4;5;6;;7", "a;2;3;4;5;6;7", "1;2;3;4;5;6;a", "1/0;2;3;4;5;6;x^41", "\t;2;3;4;5;6;7", strings.Repeat("x;", 1000)} {
			notListed(t, order, s, api.ErrTerms)
		}
	}
}

func TestListByNoOrder(t *testing.T) {
	for _, order := range noOrders() {
		for _, s := range []string{"x", "a", ";x", "1;2;3;4;5;6", "1/0"} {
			notListed(t, order, s, api.ErrArg)
		}
		for _, s := range []string{"", ";", " ; "} { // there is nothing to parse
			listed(t, order, s)
		}
	}
}

// P10.4

func TestPrintedIsParsed(t *testing.T) {
	s := source(4)
	var l [3][]api.Poly
	for order := range l {
		l[order] = []api.Poly{nil, {of(1)}, {of(-1)}, {of(1, 1)}, {of(-1, 1)}, distinct(mostTerms)}
		for n := range 40 {
			l[order] = append(l[order], scattered(&s, order, n, 40), scattered(&s, order, 1+n/20, mostBits), scattered(&s, order, 20+n, 2))
		}
	}
	long := 0
	for order, ps := range l {
		for _, p := range ps {
			text := Print(p)
			if len(text) > 2000 { // Parse takes no text of so many bytes
				long++
				refused(t, text, api.ErrText)
				continue
			}
			got, err := parsed(t, order, text)
			if err != api.OK || !identical(got, p) || Print(got) != text {
				t.Errorf("%d %s: %v %d, want %v", order, short(text), got, err, p)
			}
		}
	}
	if long > 60 {
		t.Errorf("%d texts were too long to be parsed", long)
	}
}

// Many texts of one polynomial are printed alike.
func TestManyTextsOfOne(t *testing.T) {
	for _, s := range []string{"x^2 - 1/2*y", "-1/2*y+x^2", "x*x - y + 1/2*y", "2/4*y*0 + x*x*y^0 - 3/6*y", "x^2*2*1/2 - y*1*1/2", "1 + x^2 - 1 - 5/10*y"} {
		p, _ := parsed(t, api.Lex, s)
		printed(t, p, "x^2 - 1/2*y")
	}
}

// R3

// guarded has as many limbs and terms behind its lengths as it has ahead of them.
func guarded(p api.Poly) (api.Poly, func() api.Poly) {
	twice := func(a api.Nat) api.Nat {
		return append(slices.Clone(a), slices.Repeat(api.Nat{77}, len(a)+1)...)[:len(a)]
	}
	full := make(api.Poly, 0, 2*len(p)+1)
	for _, t := range p {
		t.C.Num, t.C.Den = twice(t.C.Num), twice(t.C.Den)
		full = append(full, t)
	}
	full = append(full, distinct(len(p)+1)...)
	return full[:len(p)], func() api.Poly {
		var all api.Poly
		for _, t := range full[:cap(full)] {
			t.C.Num, t.C.Den = slices.Clone(t.C.Num[:cap(t.C.Num)]), slices.Clone(t.C.Den[:cap(t.C.Den)])
			all = append(all, t)
		}
		return all
	}
}

func TestNothingHandedInIsChanged(t *testing.T) {
	s := source(3)
	for order := range 3 {
		for n := range 20 {
			for _, p := range append(mayNots(), scattered(&s, order, n, 200)) {
				in, all := guarded(p)
				before := all()
				Print(in)
				if !identical(all(), before) {
					t.Errorf("Print changed %v", p)
				}
			}
		}
	}
}

// R5

func TestOneAnswer(t *testing.T) {
	s := source(5)
	for i := range 300 {
		text := anySum(&s) + ";" + anySum(&s)
		one, oneErr := List(i%3, text)
		Parse(i%3, "x + 1/0")
		other, otherErr := List(i%3, text)
		if oneErr != otherErr || !slices.EqualFunc(one, other, identical) {
			t.Errorf("List %s: %v %d, then %v %d", short(text), one, oneErr, other, otherErr)
		}
		for k, p := range one {
			if Print(p) != Print(other[k]) {
				t.Errorf("Print %v: not the same", p)
			}
		}
	}
}
