package guard

import (
	"encoding/binary"
	"hash/crc32"
	"math"
	"slices"
	"strings"
	"testing"

	"syzygy/api"
)

const top = math.MaxUint64

// sumByBits is Sum by the promise's own words: a step for each bit.
func sumByBits(s string) uint32 {
	n := uint32(1<<32 - 1)
	for _, b := range []byte(s) {
		n ^= uint32(b)
		for range 8 {
			lowest := n & 1
			n >>= 1
			if lowest == 1 {
				n ^= 0xEDB88320
			}
		}
	}
	return n ^ (1<<32 - 1)
}

// summed puts the sum of s behind it.
func summed(s string) string {
	return string(binary.BigEndian.AppendUint32([]byte(s), sumByBits(s)))
}

// told is a head that tells any length, whatever the text's is, and the text.
func told(length uint32, f Frame) string {
	head := binary.BigEndian.AppendUint32(nil, length)
	head = binary.BigEndian.AppendUint64(head, f.Seq)
	return string(binary.BigEndian.AppendUint64(head, f.Epoch)) + f.Text
}

// frameText is Put, worked out by other means.
func frameText(f Frame) string { return summed(told(uint32(len(f.Text)), f)) }

// scattered is a text of n bytes that hangs on its seed alone.
func scattered(n int, seed uint64) string {
	text := make([]byte, n)
	for i := range text {
		seed = seed*6364136223846793005 + 1442695040888963407
		text[i] = byte(seed >> 41)
	}
	return string(text)
}

func texts() []string {
	l := []string{
		"", "\x00", "\xff", "a", "ab", "123456789", "\x00\x00\x00\x00", "\xff\xff\xff\xff", "a text\nof many bytes, \u00e4\u20ac",
		strings.Repeat("\x00", 255), strings.Repeat("q", 256), strings.Repeat("\xff", 257), scattered(63, 1), scattered(64, 2), scattered(4711, 3),
		strings.Repeat("z", api.MaxFrame-1), strings.Repeat("\x00", api.MaxFrame), scattered(api.MaxFrame, 4),
	}
	return append(l, frameText(Frame{1, 1, "a frame in a frame"}))
}

func words() []uint64 {
	return []uint64{0, 1, 2, 255, 256, 258, 0x0102030405060708, 1<<32 - 1, 1 << 32, 1 << 63, top - 1, top}
}

// frames have each text and each word, Seq and Epoch of their own.
func frames() []Frame {
	var l []Frame
	for i, x := range texts() {
		w := words()
		l = append(l, Frame{w[i%len(w)], w[(i*5+3)%len(w)], x})
	}
	for _, n := range words() {
		l = append(l, Frame{0, n, "zero"}, Frame{n, 0, "zero"}, Frame{top, n, ""}, Frame{n, top, ""})
	}
	return l
}

// behinds are bytes that may stand behind a frame.
func behinds() []string {
	return []string{"", "\x00", "z", strings.Repeat("\x00", 23), strings.Repeat("\x00", 64), strings.Repeat("\xff", 30), frameText(Frame{2, 1, "next"}), frameText(Frame{2, 1, "next"})[:20]}
}

// expectFirst holds what was told against what must be: with an error all else is zero.
func expectFirst(t *testing.T, s string, want Frame, behind string, wantErr api.Errno) {
	t.Helper()
	if got, rest, err := First(s); got != want || rest != behind || err != wantErr {
		t.Errorf("First of %d bytes %.60q: %.60q %.60q %d, want %.60q %.60q %d", len(s), s, got.Text, rest, err, want.Text, behind, wantErr)
	}
}

func expectAll(t *testing.T, s string, epoch uint64, want []Frame, bytes int) {
	t.Helper()
	if got, taken := All(s, epoch); !slices.Equal(got, want) || taken != bytes {
		t.Errorf("All of %d bytes %.60q of %d: %d frames, %d bytes, want %d, %d", len(s), s, epoch, len(got), taken, len(want), bytes)
	}
}

// P7.1

func TestSumEdges(t *testing.T) {
	for s, want := range map[string]uint32{
		"":          0,
		"123456789": 0xcbf43926, // the chapter's example
		"a":         0xe8b7be43, "abc": 0x352441c2, "\x00": 0xd202ef8d, "\xff": 0xff000000,
		"\x00\x00\x00\x00": 0x2144df1c, "\xff\xff\xff\xff": 0xffffffff,
	} {
		if got := Sum(s); got != want {
			t.Errorf("Sum %q: %x, want %x", s, got, want)
		}
	}
}

func TestSumOfEachByte(t *testing.T) {
	seen := map[uint32]int{}
	for b := range 256 {
		s := string([]byte{byte(b)})
		got := Sum(s)
		if got != sumByBits(s) {
			t.Errorf("Sum of the byte %d: %x, want %x", b, got, sumByBits(s))
		}
		if other, ok := seen[got]; ok {
			t.Errorf("the bytes %d and %d have one sum", b, other)
		}
		seen[got] = b
	}
}

func TestSumBitByBit(t *testing.T) {
	for first := range 256 {
		for second := range 256 {
			s := string([]byte{byte(first), byte(second)})
			if got := Sum(s); got != sumByBits(s) {
				t.Fatalf("Sum %q: %x, want %x", s, got, sumByBits(s))
			}
		}
	}
	for n := range 300 {
		s := scattered(n, uint64(n))
		if got := Sum(s); got != sumByBits(s) || got != crc32.ChecksumIEEE([]byte(s)) {
			t.Errorf("Sum %q: %x, want %x", s, got, sumByBits(s))
		}
	}
	for _, s := range texts() {
		if got := Sum(s); got != sumByBits(s) {
			t.Errorf("Sum %.60q: %x, want %x", s, got, sumByBits(s))
		}
	}
}

// P7.2

func TestPut(t *testing.T) {
	for _, f := range frames() {
		if got, err := Put(f); got != frameText(f) || err != api.OK {
			t.Errorf("Put %d %d %.60q: %.60q %d", f.Seq, f.Epoch, f.Text, got, err)
		}
	}
}

func TestPutEdges(t *testing.T) {
	zero, ones := strings.Repeat("\x00", 8), strings.Repeat("\xff", 8)
	most := strings.Repeat("m", api.MaxFrame)
	for _, x := range []struct {
		f    Frame
		want string // but its sum
	}{
		{Frame{}, "\x00\x00\x00\x00" + zero + zero},
		{Frame{1, 2, "ab"}, "\x00\x00\x00\x02\x00\x00\x00\x00\x00\x00\x00\x01\x00\x00\x00\x00\x00\x00\x00\x02ab"},
		{Frame{top, top, ""}, "\x00\x00\x00\x00" + ones + ones},
		{Frame{0, top, "x"}, "\x00\x00\x00\x01" + zero + ones + "x"},
		{Frame{top, 0, "x"}, "\x00\x00\x00\x01" + ones + zero + "x"},
		{Frame{0x0102030405060708, 0x1112131415161718, ""}, "\x00\x00\x00\x00\x01\x02\x03\x04\x05\x06\x07\x08\x11\x12\x13\x14\x15\x16\x17\x18"},
		{Frame{0, 0, most[:258]}, "\x00\x00\x01\x02" + zero + zero + most[:258]},
		{Frame{0, 0, most}, "\x00\x00\x20\x00" + zero + zero + most},
	} {
		if got, err := Put(x.f); got != summed(x.want) || err != api.OK {
			t.Errorf("Put %d %d %.60q: %.60q %d", x.f.Seq, x.f.Epoch, x.f.Text, got, err)
		}
	}
}

func TestPutOfTooMuch(t *testing.T) {
	for _, n := range []int{api.MaxFrame + 1, api.MaxFrame + 2, 2 * api.MaxFrame, 1 << 16, 1<<16 + 1} {
		for _, w := range words() {
			if got, err := Put(Frame{w, top - w, strings.Repeat("x", n)}); got != "" || err != api.ErrCap {
				t.Errorf("Put of %d bytes: %.60q %d", n, got, err)
			}
		}
	}
}

// P7.3

func TestFirst(t *testing.T) {
	for _, f := range frames() {
		for _, behind := range behinds() {
			expectFirst(t, frameText(f)+behind, f, behind, api.OK)
		}
	}
}

func TestFirstOfTooFew(t *testing.T) {
	expectFirst(t, "", Frame{}, "", api.ErrNone)
	for n := 1; n < 24; n++ {
		for _, b := range []string{"\x00", "\xff", "\x01"} { // also of a length that is too great
			expectFirst(t, strings.Repeat(b, n), Frame{}, "", api.ErrShort)
		}
		expectFirst(t, frameText(Frame{1, 1, "cut"})[:n], Frame{}, "", api.ErrShort)
	}
	for _, f := range frames() {
		s := frameText(f)
		expectFirst(t, s[:len(s)-1], Frame{}, "", api.ErrShort) // one byte fewer
		expectFirst(t, s[:max(24, len(s)-len(f.Text))-1], Frame{}, "", api.ErrShort)
	}
	whole := frameText(Frame{3, 4, scattered(100, 5)})
	for n := 1; n < len(whole); n++ {
		expectFirst(t, whole[:n], Frame{}, "", api.ErrShort)
	}
}

// A length that is too great is told whether its bytes are there or not, and whether its sum holds or not.
func TestFirstOfTooGreatALength(t *testing.T) {
	for _, length := range []uint32{api.MaxFrame + 1, api.MaxFrame + 2, 1 << 14, 1 << 16, 1<<16 + 1, 1 << 24, 1 << 31, 1<<32 - 25, 1<<32 - 24, 1<<32 - 1} {
		few := told(length, Frame{1, 1, ""})
		expectFirst(t, few, Frame{}, "", api.ErrShort) // of 20 bytes nothing is looked at
		expectFirst(t, few+"\x00\x00\x00", Frame{}, "", api.ErrShort)
		expectFirst(t, few+"\x00\x00\x00\x00", Frame{}, "", api.ErrCap)
		expectFirst(t, summed(few), Frame{}, "", api.ErrCap)
		expectFirst(t, few+strings.Repeat("y", 300), Frame{}, "", api.ErrCap)
	}
	for _, n := range []int{api.MaxFrame + 1, api.MaxFrame + 2, 1 << 16} {
		s := frameText(Frame{1, 1, strings.Repeat("x", n)})
		expectFirst(t, s, Frame{}, "", api.ErrCap)
		expectFirst(t, s[:len(s)-1], Frame{}, "", api.ErrCap)
	}
	s := told(api.MaxFrame, Frame{1, 1, "few"}) + "sums"
	expectFirst(t, s, Frame{}, "", api.ErrShort) // that one may be
}

func TestFirstOfAnotherSum(t *testing.T) {
	expectFirst(t, strings.Repeat("\x00", 24), Frame{}, "", api.ErrSum)
	expectFirst(t, strings.Repeat("\x00", 100), Frame{}, "", api.ErrSum)
	expectFirst(t, "\x00\x00\x20\x00"+strings.Repeat("\xff", 9000), Frame{}, "", api.ErrSum)
	for _, f := range frames() {
		head := told(uint32(len(f.Text)), f)
		n := sumByBits(head)
		for _, other := range []uint32{n + 1, n - 1, ^n, n ^ 1, n ^ 1<<31, n ^ 1<<16} {
			expectFirst(t, string(binary.BigEndian.AppendUint32([]byte(head), other)), Frame{}, "", api.ErrSum)
		}
		if back := string(binary.LittleEndian.AppendUint32([]byte(head), n)); back != frameText(f) {
			expectFirst(t, back+"z", Frame{}, "", api.ErrSum)
		}
	}
	// the sum is that of what the length tells, and stands there
	expectFirst(t, summed(told(2, Frame{1, 1, "abc"})), Frame{}, "", api.ErrSum)
	expectFirst(t, summed(told(4, Frame{1, 1, "abc"}))+"z", Frame{}, "", api.ErrSum)
}

// P7.4

// row is count frames of one epoch from 1 on, and where each of them ends.
func row(count int, epoch uint64) (l []Frame, s string, ends []int) {
	ends = []int{0}
	for i := range count {
		f := Frame{uint64(i + 1), epoch, scattered(i*i%97, uint64(i))}
		l = append(l, f)
		s += frameText(f)
		ends = append(ends, len(s))
	}
	return l, s, ends
}

func TestAll(t *testing.T) {
	for _, epoch := range words() {
		expectAll(t, "", epoch, nil, 0)
		for _, count := range []int{1, 2, 3, 40} {
			l, s, _ := row(count, epoch)
			expectAll(t, s, epoch, l, len(s))
		}
	}
	l, s, _ := row(300, 7) // Seq above a byte
	expectAll(t, s, 7, l, len(s))
	most := Frame{1, 9, strings.Repeat("m", api.MaxFrame)}
	expectAll(t, frameText(most)+frameText(Frame{2, 9, most.Text}), 9, []Frame{most, {2, 9, most.Text}}, 2*(24+api.MaxFrame))
}

func TestAllWithOthersBehind(t *testing.T) {
	l, s, _ := row(5, 3)
	for _, behind := range []string{
		"z", strings.Repeat("\x00", 10), strings.Repeat("\x00", 64), strings.Repeat("\xff", 64),
		frameText(Frame{6, 3, "cut"})[:26], frameText(Frame{6, 4, "later"}), frameText(Frame{6, 2, "old"}), frameText(Frame{7, 3, "one left out"}),
		frameText(Frame{5, 3, "twice"}), frameText(l[4]), frameText(Frame{1, 3, "anew"}), frameText(Frame{0, 3, ""}), frameText(Frame{3, 6, "the other way"}),
		"\x00" + frameText(Frame{6, 3, "one byte on"}), frameText(Frame{6, 3, strings.Repeat("x", api.MaxFrame+1)}),
		told(2, Frame{6, 3, "no"}) + "sum!",
	} {
		expectAll(t, s+behind, 3, l, len(s))
		expectAll(t, s+behind+frameText(Frame{6, 3, "too late"}), 3, l, len(s))
	}
}

func TestAllOfOtherNumbers(t *testing.T) {
	for _, x := range []struct {
		seqs  []uint64
		count int
	}{
		{[]uint64{0}, 0}, {[]uint64{2}, 0}, {[]uint64{2, 1}, 0}, {[]uint64{0, 1, 2}, 0}, {[]uint64{2, 3, 4}, 0}, {[]uint64{top, 0, 1}, 0}, // not from 1 on
		{[]uint64{1, 3}, 1}, {[]uint64{1, 2, 4, 5}, 2}, {[]uint64{1, 2, 3, 5, 4}, 3}, // one is left out
		{[]uint64{1, 1}, 1}, {[]uint64{1, 1, 2}, 1}, {[]uint64{1, 2, 2, 3}, 2}, {[]uint64{1, 2, 1, 2, 3}, 2}, // one comes twice
		{[]uint64{1, 0}, 1}, {[]uint64{1, top}, 1}, {[]uint64{1, 1<<32 + 2}, 1}, {[]uint64{1<<32 + 1}, 0}, {[]uint64{1, 2, 3}, 3},
	} {
		var l []Frame
		s, taken := "", 0
		for i, n := range x.seqs {
			f := Frame{n, 5, scattered(i, n)}
			s += frameText(f)
			if i < x.count {
				l = append(l, f)
				taken = len(s)
			}
		}
		expectAll(t, s, 5, l, taken)
	}
}

func TestAllOfAnotherEpoch(t *testing.T) {
	for _, epoch := range words() {
		_, s, _ := row(4, epoch)
		for _, other := range words() {
			if other != epoch {
				expectAll(t, s, other, nil, 0)
			}
		}
		expectAll(t, s, epoch^1<<32, nil, 0)
	}
	for at := range 6 { // one is of another epoch, or has both the other way round
		l, s, ends := row(6, 20)
		for _, other := range []Frame{{uint64(at + 1), 21, l[at].Text}, {uint64(at + 1), 19, l[at].Text}, {20, uint64(at + 1), l[at].Text}} {
			expectAll(t, s[:ends[at]]+frameText(other)+s[ends[at+1]:], 20, l[:at], ends[at])
		}
	}
}

func TestAllWithOneCutOrTurned(t *testing.T) {
	const count = 6
	l, s, ends := row(count, 8)
	for n := range len(s) { // the end is cut off
		whole := 0
		for ends[whole+1] <= n {
			whole++
		}
		expectAll(t, s[:n], 8, l[:whole], ends[whole])
	}
	for at := range count {
		for n := ends[at]; n < ends[at+1]; n++ {
			expectAll(t, s[:n]+s[ends[at+1]:], 8, l[:at], ends[at]) // the frame's own end is missing
			for bit := range 8 {
				expectAll(t, turned(s, 8*n+bit), 8, l[:at], ends[at])
			}
		}
	}
}

// P7.5

// turned is s with the bits at these places turned; of a byte the lowest bit is the first.
func turned(s string, places ...int) string {
	b := []byte(s)
	for _, p := range places {
		b[p/8] ^= 1 << (p % 8)
	}
	return string(b)
}

// turnedBy turns the bits of pattern, its lowest one at the place from.
func turnedBy(s string, from int, pattern uint32) string {
	var places []int
	for i := range 32 {
		if pattern>>i&1 == 1 {
			places = append(places, from+i)
		}
	}
	return turned(s, places...)
}

func TestWhatWasPutIsTheFirst(t *testing.T) {
	for _, f := range frames() {
		s, err := Put(f)
		if err != api.OK {
			t.Fatal(err)
		}
		for _, behind := range behinds() {
			expectFirst(t, s+behind, f, behind, api.OK)
		}
	}
	all, left := "", frames()
	for _, f := range left {
		s, _ := Put(f)
		all += s
	}
	for _, f := range left {
		var got Frame
		var err api.Errno
		if got, all, err = First(all); got != f || err != api.OK {
			t.Fatalf("%.60q %d, want %.60q", got.Text, err, f.Text)
		}
	}
	if all != "" {
		t.Errorf("%.60q is left", all)
	}
}

// short are frames whose every place can be gone through.
func short() []Frame {
	return []Frame{{}, {1, 1, ""}, {1, 2, "ab"}, {top, top, "\xff\xff\xff"}, {3, 258, "a frame of some bytes"}, {9, 9, strings.Repeat("\x00", 40)}, {7, 1, scattered(64, 6)}}
}

// expectTurned: the bits were turned, so it is no frame, whatever stands behind.
func expectTurned(t *testing.T, s string) {
	t.Helper()
	expectFirst(t, s, Frame{}, "", api.ErrSum)
	expectFirst(t, s+"z", Frame{}, "", api.ErrSum)
}

func TestOneOrTwoBitsTurned(t *testing.T) {
	for _, f := range short() {
		s, _ := Put(f)
		for _, part := range [][2]int{{4 * 8, 8 * (len(s) - 4)}, {8 * (len(s) - 4), 8 * len(s)}} {
			for p := part[0]; p < part[1]; p++ {
				expectTurned(t, turned(s, p))
				for q := p + 1; q < min(p+32, part[1]); q++ {
					expectTurned(t, turned(s, p, q))
				}
			}
		}
	}
}

// Bursts of many shapes, the steps' own number among them, at each place where they stand ahead of the sum as a whole.
func TestManyBitsTurned(t *testing.T) {
	patterns := []uint32{1<<32 - 1, 0xEDB88320, 0x04C11DB7, 0x82608EDB, 0x80000001, 0xffff, 0xff, 0xf, 0xaaaaaaab, 0x55555555, 0xDB710641}
	for i := range uint64(40) {
		patterns = append(patterns, binary.BigEndian.Uint32([]byte(scattered(4, i))))
	}
	for _, f := range short() {
		s, _ := Put(f)
		for _, pattern := range patterns {
			for from := 4 * 8; from+32 <= 8*(len(s)-4); from++ {
				expectTurned(t, turnedBy(s, from, pattern))
			}
			expectTurned(t, turnedBy(s, 8*(len(s)-4), pattern))
		}
	}
	long, _ := Put(Frame{1, 1, scattered(api.MaxFrame, 7)})
	for _, from := range []int{4 * 8, 12*8 + 5, 20 * 8, 30001, 8*(len(long)-8) - 1, 8 * (len(long) - 8)} {
		for _, pattern := range patterns {
			expectTurned(t, turnedBy(long, from, pattern))
		}
	}
}

// R3 and R5

func TestNothingHandedInIsChanged(t *testing.T) {
	for _, f := range frames() {
		f.Text = strings.Clone(f.Text)
		kept := Frame{f.Seq, f.Epoch, strings.Clone(f.Text)}
		s, _ := Put(f)
		keptText := strings.Clone(s)
		Sum(f.Text)
		First(s)
		All(s, f.Epoch)
		if f != kept || s != keptText {
			t.Errorf("changed %.60q", kept.Text)
		}
	}
}

// What was told is written over by who got it: the next one who asks is told the same.
func TestOneAnswer(t *testing.T) {
	l, s, _ := row(9, 4)
	kept := strings.Clone(s)
	for range 3 {
		got, _ := All(s, 4)
		clear(got[:cap(got)])
		expectAll(t, s, 4, l, len(s))
	}
	for _, f := range frames() {
		once, _ := Put(f)
		again, _ := Put(f)
		if once != again || Sum(f.Text) != Sum(f.Text) {
			t.Errorf("Put %.60q: %.60q, and then %.60q", f.Text, once, again)
		}
	}
	if s != kept {
		t.Error("the text was changed")
	}
}
