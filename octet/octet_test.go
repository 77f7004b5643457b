package octet

import (
	"encoding/binary"
	"math"
	"math/big"
	"slices"
	"strings"
	"testing"

	"syzygy/api"
)

const top = math.MaxUint64

// limbText is all bytes of one limb.
func limbText(n uint64) string { return string(binary.BigEndian.AppendUint64(nil, n)) }

// putNumber is Put, worked out by other means.
func putNumber(n uint64) string {
	digits := string(new(big.Int).SetUint64(n).Bytes())
	return string([]byte{byte(len(digits))}) + digits
}

// putRow is PutNat of any row, also of one that may not be.
func putRow(a api.Nat) string {
	text := putNumber(uint64(len(a)))
	for i := len(a); i > 0; i-- {
		text += limbText(a[i-1])
	}
	return text
}

// putSigned is PutRat of any rows, also of a number that may not be.
func putSigned(a api.Rat) string {
	if a.Neg {
		return "\x01" + putRow(a.Num) + putRow(a.Den)
	}
	return "\x00" + putRow(a.Num) + putRow(a.Den)
}

func putText(s string) string { return putNumber(uint64(len(s))) + s }

func identical(a, b api.Rat) bool {
	return a.Neg == b.Neg && slices.Equal(a.Num, b.Num) && slices.Equal(a.Den, b.Den)
}

// expectGet, and those behind it, hold what was got against what must be: with an error all else is zero.
func expectGet(t *testing.T, s string, want uint64, behind string, wantErr api.Errno) {
	t.Helper()
	if got, rest, err := Get(s); got != want || rest != behind || err != wantErr {
		t.Errorf("Get %q: %d %q %d, want %d %q %d", s, got, rest, err, want, behind, wantErr)
	}
}

func expectNat(t *testing.T, s string, want api.Nat, behind string, wantErr api.Errno) {
	t.Helper()
	if got, rest, err := GetNat(s); !slices.Equal(got, want) || rest != behind || err != wantErr {
		t.Errorf("GetNat %q: %v %q %d, want %v %q %d", s, got, rest, err, want, behind, wantErr)
	}
}

func expectRat(t *testing.T, s string, want api.Rat, behind string, wantErr api.Errno) {
	t.Helper()
	if got, rest, err := GetRat(s); !identical(got, want) || rest != behind || err != wantErr {
		t.Errorf("GetRat %q: %v %q %d, want %v %q %d", s, got, rest, err, want, behind, wantErr)
	}
}

func expectText(t *testing.T, s string, want string, behind string, wantErr api.Errno) {
	t.Helper()
	if got, rest, err := GetText(s); got != want || rest != behind || err != wantErr {
		t.Errorf("GetText %q: %q %q %d, want %q %q %d", s, got, rest, err, want, behind, wantErr)
	}
}

// numbers are each power of 256 with its neighbours, and the least and greatest ones.
func numbers() []uint64 {
	l := []uint64{0, 1, 2, 3, 127, 128, 254, 258, 4711, 1 << 63, 1<<63 - 1, top - 1, top}
	for k := 1; k < 8; k++ {
		p := uint64(1) << (8 * k)
		l = append(l, p-1, p, p+1, p+255, 5*p)
	}
	return l
}

func full(n int) api.Nat { return slices.Repeat(api.Nat{top}, n) }

// scattered is a row of n limbs that hangs on its seed alone; its last limb is not 0.
func scattered(n int, seed uint64) api.Nat {
	a := make(api.Nat, n)
	for i := range a {
		seed = seed*6364136223846793005 + 1442695040888963407
		a[i] = seed ^ seed>>29 | 1
	}
	return a
}

// naturals may be.
func naturals() []api.Nat {
	l := []api.Nat{
		nil, {}, {1}, {2}, {255}, {256}, {1 << 56}, {1 << 63}, {top}, {0, 1}, {1, 2}, {0, 0, 1}, {0x0102030405060708, 0x1112131415161718},
		append(make(api.Nat, 7), 1), append(make(api.Nat, 7), 1<<63), full(7), full(8),
	}
	for n := 1; n <= api.MaxLimbs; n++ {
		l = append(l, scattered(n, uint64(n)))
	}
	return l
}

// wrongRows may not be: not trim, too long, or both.
func wrongRows() []api.Nat {
	return []api.Nat{
		{0}, {1, 0}, {0, 0}, {top, top, 0}, make(api.Nat, 8), append(full(7), 0),
		full(9), append(full(8), 0), append(make(api.Nat, 8), 1), make(api.Nat, 9), scattered(20, 3), make(api.Nat, 70),
	}
}

// rationals may be.
func rationals() []api.Rat {
	l := []api.Rat{
		{Den: api.Nat{1}}, {Num: api.Nat{}, Den: api.Nat{1}},
		{Num: api.Nat{1}, Den: api.Nat{1}}, {Num: api.Nat{1}, Den: api.Nat{2}}, {Num: api.Nat{2}, Den: api.Nat{1}},
		{Num: api.Nat{2}, Den: api.Nat{3}}, {Num: api.Nat{100}, Den: api.Nat{99}}, {Num: api.Nat{0, 1}, Den: api.Nat{top}},
		{Num: full(8), Den: api.Nat{1}}, {Num: api.Nat{1}, Den: full(8)}, {Num: full(8), Den: append(make(api.Nat, 7), 1<<63)},
		{Num: api.Nat{1, 1}, Den: api.Nat{0, 0, 1}},
	}
	for _, a := range slices.Clone(l) {
		if len(a.Num) > 0 {
			l = append(l, api.Rat{Neg: true, Num: a.Num, Den: a.Den})
		}
	}
	return l
}

// unreduced have naturals that may be, and are not their number's one way to be written.
func unreduced() []api.Rat {
	return []api.Rat{
		{Num: api.Nat{2}, Den: api.Nat{4}}, {Neg: true, Num: api.Nat{2}, Den: api.Nat{4}}, {Num: api.Nat{6}, Den: api.Nat{3}},
		{Num: full(8), Den: full(8)}, {Num: api.Nat{0, 1}, Den: api.Nat{2}},
		{Neg: true, Den: api.Nat{1}}, {Neg: true, Den: api.Nat{5}}, {Den: api.Nat{2}}, {Den: full(8)},
		{}, {Neg: true}, {Num: api.Nat{1}}, {Neg: true, Num: api.Nat{1}}, {Num: full(8)},
	}
}

func texts() []string {
	return []string{
		"", "\x00", "a", "ab", "\x00\x00", "\xff\xfe", "a text\nof many bytes, \u00e4\u20ac",
		strings.Repeat("z", 254), strings.Repeat("\x00", 255), strings.Repeat("q", 256), strings.Repeat("long ", 3000),
	}
}

// behinds are bytes that may stand behind a thing.
func behinds() []string {
	return []string{"", "\x00", "\x01", "\x08", "\xff", "ab", "\x00\x00\x00\x00\x00\x00\x00\x00\x00\x00", strings.Repeat("\xff", 20)}
}

// P6.1

func TestPut(t *testing.T) {
	for _, n := range numbers() {
		if got := Put(n); got != putNumber(n) {
			t.Errorf("Put %d: %q", n, got)
		}
	}
	for k := 1; k < 8; k++ {
		p := uint64(1) << (8 * k)
		if len(Put(p)) != k+2 || len(Put(p-1)) != k+1 {
			t.Errorf("256^%d has a byte more than one less: %q %q", k, Put(p), Put(p-1))
		}
	}
}

func TestPutEdges(t *testing.T) {
	for _, x := range []struct {
		n    uint64
		want string
	}{
		{0, "\x00"}, {1, "\x01\x01"}, {255, "\x01\xff"}, {256, "\x02\x01\x00"},
		{258, "\x02\x01\x02"}, // the chapter's example
		{65535, "\x02\xff\xff"}, {65536, "\x03\x01\x00\x00"},
		{1<<56 - 1, "\x07\xff\xff\xff\xff\xff\xff\xff"}, {1 << 56, "\x08\x01\x00\x00\x00\x00\x00\x00\x00"},
		{0x0102030405060708, "\x08\x01\x02\x03\x04\x05\x06\x07\x08"}, {top, "\x08\xff\xff\xff\xff\xff\xff\xff\xff"},
	} {
		if got := Put(x.n); got != x.want {
			t.Errorf("Put %d: %q, want %q", x.n, got, x.want)
		}
		expectGet(t, x.want, x.n, "", api.OK)
	}
}

func TestGet(t *testing.T) {
	for _, n := range numbers() {
		for _, behind := range behinds() {
			expectGet(t, putNumber(n)+behind, n, behind, api.OK)
		}
	}
}

func TestGetWrong(t *testing.T) {
	for _, x := range []struct {
		s   string
		err api.Errno
	}{
		{"", api.ErrShort},
		{"\x09", api.ErrForm}, {"\x09123456789", api.ErrForm}, {"\x09\x00", api.ErrForm}, {"\xff", api.ErrForm}, {"\x80ab", api.ErrForm},
		{"\x01", api.ErrShort}, {"\x08", api.ErrShort}, {"\x02\x01", api.ErrShort}, {"\x08\x01\x02\x03\x04\x05\x06\x07", api.ErrShort},
		{"\x01\x00", api.ErrForm}, {"\x02\x00\x01", api.ErrForm}, {"\x08\x00\xff\xff\xff\xff\xff\xff\xff", api.ErrForm}, {"\x03\x00\x00\x00ab", api.ErrForm},
		{"\x02\x00", api.ErrShort}, {"\x08\x00\x00", api.ErrShort}, // too few comes ahead of a first one of 0
	} {
		expectGet(t, x.s, 0, "", x.err)
	}
	for first := 9; first < 256; first++ {
		expectGet(t, string([]byte{byte(first)})+strings.Repeat("\x01", 300), 0, "", api.ErrForm)
	}
	for k := 1; k <= 8; k++ {
		for have := range k {
			expectGet(t, string([]byte{byte(k)})+strings.Repeat("\x01", have), 0, "", api.ErrShort)
		}
		expectGet(t, string([]byte{byte(k), 0})+strings.Repeat("\x01", 9), 0, "", api.ErrForm)
	}
}

// P6.2

func TestPutNat(t *testing.T) {
	for _, a := range naturals() {
		if got, err := PutNat(a); got != putRow(a) || err != api.OK {
			t.Errorf("PutNat %v: %q %d", a, got, err)
		}
	}
	for _, a := range wrongRows() {
		if got, err := PutNat(a); got != "" || err != api.ErrArg {
			t.Errorf("PutNat %v: %q %d", a, got, err)
		}
	}
}

func TestPutNatEdges(t *testing.T) {
	for _, x := range []struct {
		a    api.Nat
		want string
	}{
		{nil, "\x00"}, {api.Nat{}, "\x00"}, {api.Nat{1}, "\x01\x01\x00\x00\x00\x00\x00\x00\x00\x01"},
		{api.Nat{1, 2}, "\x01\x02\x00\x00\x00\x00\x00\x00\x00\x02\x00\x00\x00\x00\x00\x00\x00\x01"},
		{api.Nat{0x0102030405060708}, "\x01\x01\x01\x02\x03\x04\x05\x06\x07\x08"},
		{full(8), "\x01\x08" + strings.Repeat("\xff", 64)},
	} {
		if got, err := PutNat(x.a); got != x.want || err != api.OK {
			t.Errorf("PutNat %v: %q %d", x.a, got, err)
		}
		expectNat(t, x.want, x.a, "", api.OK)
	}
}

func TestGetNat(t *testing.T) {
	for _, a := range naturals() {
		for _, behind := range behinds() {
			expectNat(t, putRow(a)+behind, a, behind, api.OK)
		}
	}
}

func TestGetNatWrong(t *testing.T) {
	one := limbText(1)
	for _, x := range []struct {
		s   string
		err api.Errno
	}{
		{"", api.ErrShort}, {"\x09", api.ErrForm}, {"\x01", api.ErrShort}, {"\x02\x01", api.ErrShort}, {"\x01\x00", api.ErrForm}, {"\x02\x00\x01" + one, api.ErrForm},
		{"\x01\x09", api.ErrForm}, {"\x01\x09" + strings.Repeat(one, 8), api.ErrForm}, {"\x01\x09" + strings.Repeat(one, 9), api.ErrForm},
		{"\x02\x01\x00", api.ErrForm}, {"\x08" + strings.Repeat("\xff", 8), api.ErrForm}, {"\x08\x20" + strings.Repeat("\x00", 7), api.ErrForm}, // times 8 the last wraps round to 0
		{"\x08\x20" + strings.Repeat("\x00", 6) + "\x01" + one, api.ErrForm},
		{"\x01\x01", api.ErrShort}, {"\x01\x01" + one[:7], api.ErrShort}, {"\x01\x02" + one, api.ErrShort}, {"\x01\x08" + strings.Repeat(one, 8)[:63], api.ErrShort},
		{"\x01\x01" + limbText(0), api.ErrForm}, {"\x01\x02" + limbText(0) + one, api.ErrForm}, {"\x01\x08" + limbText(0) + strings.Repeat(one, 7), api.ErrForm},
		{"\x01\x02" + limbText(0), api.ErrShort}, // too few comes ahead of a highest one of 0
	} {
		expectNat(t, x.s, nil, "", x.err)
	}
	for _, a := range wrongRows() {
		expectNat(t, putRow(a), nil, "", api.ErrForm)
		expectNat(t, putRow(a)+"behind", nil, "", api.ErrForm)
	}
}

// P6.3

func TestPutRat(t *testing.T) {
	for _, a := range rationals() {
		if got, err := PutRat(a); got != putSigned(a) || err != api.OK {
			t.Errorf("PutRat %v: %q %d", a, got, err)
		}
	}
	wrong := unreduced()
	for _, a := range wrongRows() {
		wrong = append(wrong, api.Rat{Num: a, Den: api.Nat{1}}, api.Rat{Num: api.Nat{1}, Den: a}, api.Rat{Neg: true, Num: a, Den: a}, api.Rat{Den: a})
	}
	for _, a := range wrong {
		if got, err := PutRat(a); got != "" || err != api.ErrArg {
			t.Errorf("PutRat %v: %q %d", a, got, err)
		}
	}
}

func TestPutRatEdges(t *testing.T) {
	for _, x := range []struct {
		a    api.Rat
		want string
	}{
		{api.Rat{Den: api.Nat{1}}, "\x00\x00\x01\x01" + limbText(1)},
		{api.Rat{Num: api.Nat{3}, Den: api.Nat{2}}, "\x00\x01\x01" + limbText(3) + "\x01\x01" + limbText(2)},
		{api.Rat{Neg: true, Num: api.Nat{1}, Den: api.Nat{0, 1}}, "\x01\x01\x01" + limbText(1) + "\x01\x02" + limbText(1) + limbText(0)},
	} {
		if got, err := PutRat(x.a); got != x.want || err != api.OK {
			t.Errorf("PutRat %v: %q %d", x.a, got, err)
		}
		expectRat(t, x.want, x.a, "", api.OK)
	}
}

func TestGetRat(t *testing.T) {
	for _, a := range rationals() {
		for _, behind := range behinds() {
			expectRat(t, putSigned(a)+behind, a, behind, api.OK)
		}
	}
}

func TestGetRatWrong(t *testing.T) {
	one, long, flat := putRow(api.Nat{1}), putRow(full(9)), putRow(api.Nat{1, 0})
	for _, x := range []struct {
		s   string
		err api.Errno
	}{
		{"", api.ErrShort}, {"\x02", api.ErrForm}, {"\x02" + one + one, api.ErrForm}, {"\xff" + one + one, api.ErrForm},
		{"\x00", api.ErrShort}, {"\x01", api.ErrShort}, {"\x00\x09", api.ErrForm}, {"\x00\x01", api.ErrShort}, {"\x00\x01\x00", api.ErrForm},
		{"\x00" + one[:9], api.ErrShort}, {"\x00" + long + one, api.ErrForm}, {"\x00" + flat + one, api.ErrForm}, {"\x00\x01\x09", api.ErrForm},
		{"\x01" + one, api.ErrShort}, {"\x00" + one + "\x09", api.ErrForm}, {"\x00" + one + "\x01", api.ErrShort}, {"\x00" + one + "\x01\x00", api.ErrForm},
		{"\x00" + one + one[:9], api.ErrShort}, {"\x00" + one + long, api.ErrForm}, {"\x00" + one + flat, api.ErrForm}, {"\x00" + one + "\x01\x09", api.ErrForm},
		{"\x00" + flat, api.ErrForm}, {"\x00" + long, api.ErrForm}, {"\x00" + flat + one[:5], api.ErrForm}, // Num's error, though Den ends too early
		{"\x01\x00" + one[:9], api.ErrShort}, {"\x00\x00", api.ErrShort}, // Den's error ahead of what may not be
		{"\x00\x00\x00", api.ErrForm}, {"\x01\x00" + one, api.ErrForm}, {"\x00" + one + "\x00", api.ErrForm},
	} {
		expectRat(t, x.s, api.Rat{}, "", x.err)
	}
	for first := 2; first < 256; first++ {
		expectRat(t, string([]byte{byte(first)})+one+one, api.Rat{}, "", api.ErrForm)
	}
	for _, a := range unreduced() {
		expectRat(t, putSigned(a), api.Rat{}, "", api.ErrForm)
		expectRat(t, putSigned(a)+"behind", api.Rat{}, "", api.ErrForm)
	}
}

// P6.4

func TestTexts(t *testing.T) {
	for _, s := range texts() {
		if got := PutText(s); got != putText(s) {
			t.Errorf("PutText %q: %q", s, got)
		}
		for _, behind := range behinds() {
			expectText(t, putText(s)+behind, s, behind, api.OK)
		}
	}
}

func TestTextEdges(t *testing.T) {
	for _, x := range []struct{ s, want string }{
		{"", "\x00"}, {"a", "\x01\x01a"}, {"ab", "\x01\x02ab"}, {"\x00", "\x01\x01\x00"},
		{strings.Repeat("x", 255), "\x01\xff" + strings.Repeat("x", 255)}, {strings.Repeat("x", 256), "\x02\x01\x00" + strings.Repeat("x", 256)},
	} {
		if got := PutText(x.s); got != x.want {
			t.Errorf("PutText %q: %q", x.s, got)
		}
		expectText(t, x.want, x.s, "", api.OK)
	}
}

func TestGetTextWrong(t *testing.T) {
	for _, x := range []struct {
		s   string
		err api.Errno
	}{
		{"", api.ErrShort}, {"\x09", api.ErrForm}, {"\x01", api.ErrShort}, {"\x02\x01", api.ErrShort}, {"\x01\x00", api.ErrForm}, {"\x02\x00\x01a", api.ErrForm},
		{"\x01\x01", api.ErrShort}, {"\x01\x03ab", api.ErrShort}, {"\x02\x01\x00" + strings.Repeat("x", 255), api.ErrShort},
		{"\x04\x80\x00\x00\x00ab", api.ErrShort}, {"\x04\xff\xff\xff\xffab", api.ErrShort}, {"\x05\x01\x00\x00\x00\x02ab", api.ErrShort},
		{putNumber(math.MaxInt64) + "ab", api.ErrShort}, {putNumber(1<<63) + "ab", api.ErrShort}, // the last one is more than an int holds
		{putNumber(top) + "ab", api.ErrShort}, {putNumber(top-1) + "ab", api.ErrShort}, {putNumber(1<<63+2) + "ab", api.ErrShort}, {putNumber(top), api.ErrShort},
	} {
		expectText(t, x.s, "", "", x.err)
	}
}

// P6.5

// written is every thing of the lists as bytes.
func written() []string {
	var l []string
	for _, n := range numbers() {
		l = append(l, putNumber(n))
	}
	for _, a := range slices.Concat(naturals(), wrongRows()) {
		l = append(l, putRow(a))
	}
	for _, a := range slices.Concat(rationals(), unreduced()) {
		l = append(l, putSigned(a))
	}
	for _, s := range texts()[:8] {
		l = append(l, putText(s))
	}
	return l
}

// reput puts again what s begins by, in each of the four ways: where it is got, it is the very bytes of s,
// and fewer of them are none; where it is not, nothing is told.
func reput(t *testing.T, s string) {
	t.Helper()
	var again [4]string
	var rest [4]string
	var err [4]api.Errno
	n, rest0, err0 := Get(s)
	again[0], rest[0], err[0] = Put(n), rest0, err0
	a, rest1, err1 := GetNat(s)
	rest[1], err[1] = rest1, err1
	again[1], _ = PutNat(a)
	q, rest2, err2 := GetRat(s)
	rest[2], err[2] = rest2, err2
	again[2], _ = PutRat(q)
	x, rest3, err3 := GetText(s)
	again[3], rest[3], err[3] = PutText(x), rest3, err3
	for i := range again {
		if err[i] == api.OK && again[i]+rest[i] != s {
			t.Errorf("way %d of %q: %q, and %q", i, s, again[i], rest[i])
		}
		if err[i] != api.OK && err[i] != api.ErrShort && err[i] != api.ErrForm || err[i] != api.OK && rest[i] != "" {
			t.Errorf("way %d of %q: error %d, and %q", i, s, err[i], rest[i])
		}
	}
	if err0 != api.OK && n != 0 || err1 != api.OK && len(a) != 0 || err2 != api.OK && !identical(q, api.Rat{}) || err3 != api.OK && x != "" {
		t.Errorf("%q: something is told beside an error", s)
	}
}

// All bytes are of one thing alone: all texts of two bytes, and those of five of the bytes that count.
func TestShortBytesAreOfOneThing(t *testing.T) {
	for i := range 256 * 256 {
		reput(t, string([]byte{byte(i >> 8), byte(i)}))
	}
	alphabet := "\x00\x01\x02\x03\x08\x09\x80\xff"
	for i := range 1 << 15 {
		s := make([]byte, 5)
		for j := range s {
			s[j] = alphabet[i>>(3*j)&7]
		}
		reput(t, string(s))
		reput(t, string(s)+limbText(1)+putRow(api.Nat{1}))
		reput(t, string(s)+limbText(2)+putRow(api.Nat{6}))
	}
}

// Whatever one byte is turned into, or where bytes are left out, what is got is what these bytes are of.
func TestTurnedBytesAreOfOneThing(t *testing.T) {
	for _, s := range written() {
		for i := range len(s) {
			for _, b := range []byte{0, 1, 2, 4, 8, 9, 64, 255, s[i] + 1, s[i] - 1, s[i] ^ 128} {
				reput(t, s[:i]+string([]byte{b})+s[i+1:])
			}
			reput(t, s[:i]+s[i+1:])
			reput(t, s[:i]+"\x00"+s[i:])
		}
	}
}

// No thing's bytes begin another's: what is cut off anywhere ends too early.
func TestCutBytesAreShort(t *testing.T) {
	for _, n := range numbers() {
		for i := range len(Put(n)) {
			expectGet(t, Put(n)[:i], 0, "", api.ErrShort)
		}
	}
	for _, a := range naturals() {
		s, _ := PutNat(a)
		for i := range len(s) {
			expectNat(t, s[:i], nil, "", api.ErrShort)
		}
	}
	for _, a := range rationals() {
		s, _ := PutRat(a)
		for i := range len(s) {
			expectRat(t, s[:i], api.Rat{}, "", api.ErrShort)
		}
	}
	for _, x := range texts()[:10] {
		for i := range len(PutText(x)) {
			expectText(t, PutText(x)[:i], "", "", api.ErrShort)
		}
	}
}

// What was put is got, one thing behind the other.
func TestWhatWasPutIsGot(t *testing.T) {
	var all strings.Builder
	for i, a := range rationals() {
		n, x := numbers()[i], texts()[i%len(texts())]
		num, _ := PutNat(a.Num)
		whole, _ := PutRat(a)
		all.WriteString(Put(n) + num + PutText(x) + whole)
	}
	rest := all.String()
	for i, a := range rationals() {
		var n uint64
		var num api.Nat
		var x string
		var whole api.Rat
		var err [4]api.Errno
		n, rest, err[0] = Get(rest)
		num, rest, err[1] = GetNat(rest)
		x, rest, err[2] = GetText(rest)
		whole, rest, err[3] = GetRat(rest)
		if err != [4]api.Errno{} || n != numbers()[i] || !slices.Equal(num, a.Num) || x != texts()[i%len(texts())] || !identical(whole, a) {
			t.Fatalf("%d: %d %v %q %v %v", i, n, num, x, whole, err)
		}
	}
	if rest != "" {
		t.Errorf("%q is left", rest)
	}
}

// Different things are different bytes.
func TestThingsHaveBytesOfTheirOwn(t *testing.T) {
	for _, a := range naturals() {
		for _, b := range naturals() {
			x, _ := PutNat(a)
			y, _ := PutNat(b)
			if (x == y) != slices.Equal(a, b) {
				t.Errorf("%v %v: %q %q", a, b, x, y)
			}
		}
	}
	for _, a := range rationals() {
		for _, b := range rationals() {
			x, _ := PutRat(a)
			y, _ := PutRat(b)
			if (x == y) != identical(a, b) {
				t.Errorf("%v %v: %q %q", a, b, x, y)
			}
		}
	}
}

// R3 and R5

// guarded is a copy of a row with limbs behind its length that nobody may write to.
func guarded(a api.Nat) (row, whole api.Nat) {
	whole = slices.Concat(a, api.Nat{11, 12, 13})
	return whole[:len(a)], whole
}

func TestNothingHandedInIsChanged(t *testing.T) {
	rows := slices.Concat(naturals(), wrongRows())
	for _, x := range rows {
		for _, y := range rows {
			num, wholeNum := guarded(x)
			den, wholeDen := guarded(y)
			PutNat(num)
			PutRat(api.Rat{Num: num, Den: den})
			PutRat(api.Rat{Neg: true, Num: num, Den: den})
			_, keptNum := guarded(x)
			_, keptDen := guarded(y)
			if !slices.Equal(wholeNum, keptNum) || !slices.Equal(wholeDen, keptDen) {
				t.Fatalf("changed %v %v", x, y)
			}
		}
	}
}

// What was told is written over by who got it: the next one who asks is told the same.
func TestOneAnswer(t *testing.T) {
	overwrite := func(a api.Nat) {
		a = a[:cap(a)]
		for i := range a {
			a[i] = 77
		}
	}
	for _, a := range naturals() {
		s := putRow(a)
		got, _, _ := GetNat(s)
		overwrite(got)
		expectNat(t, s, a, "", api.OK)
	}
	for _, a := range rationals() {
		s := putSigned(a)
		got, _, _ := GetRat(s)
		overwrite(got.Num)
		if !slices.Equal(got.Den, a.Den) {
			t.Errorf("%v: Num and Den are one row", a)
		}
		overwrite(got.Den)
		expectRat(t, s, a, "", api.OK)
	}
}
