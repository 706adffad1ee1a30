package tests

import (
	"fmt"
	"math"
	"strconv"
	"strings"
	"testing"

	"loop.example/g00777/impl"
)

// behind is what may stand behind a number that is read from the front of a text.
var behind = []string{"", "\x00", "\x7f", "\x80", "\xff\xff\xff\xff\xff\xff\xff\xff", "0", "a"}

// nearPowers are the numbers at and beside each power of two, with those beside 0 and both ends of int.
func nearPowers() []int {
	l := []int{math.MinInt, math.MinInt + 1, -2, -1, 0, math.MaxInt - 1, math.MaxInt}
	for k := range 63 {
		for d := -1; d <= 1; d++ {
			l = append(l, 1<<k+d)
		}
	}
	return l
}

func TestFixedTexts(t *testing.T) {
	for _, c := range []struct {
		n, width int
		want     string
	}{
		{0, 1, "\x00"}, {255, 1, "\xff"}, {256, 1, ""},
		{0, 3, "\x00\x00\x00"}, {258, 2, "\x01\x02"}, {1, 4, "\x00\x00\x00\x01"},
		{65535, 2, "\xff\xff"}, {65536, 2, ""},
		{0x01020304050607, 7, "\x01\x02\x03\x04\x05\x06\x07"},
		{1<<56 - 1, 7, "\xff\xff\xff\xff\xff\xff\xff"}, {1 << 56, 7, ""},
		{0, 0, ""}, {0, 8, ""}, {1, 8, ""}, {0, -1, ""}, {5, 64, ""},
		{5, math.MinInt, ""}, {5, math.MaxInt, ""},
		{-1, 1, ""}, {-1, 7, ""}, {math.MinInt, 7, ""}, {math.MaxInt, 7, ""},
	} {
		if got := impl.Fixed(c.n, c.width); got != c.want {
			t.Errorf("Fixed(%d, %d) = %q, not %q", c.n, c.width, got, c.want)
		}
	}
}

func TestFixedIsReadBack(t *testing.T) {
	for _, n := range nearPowers() {
		for width := -1; width <= 9; width++ {
			s := impl.Fixed(n, width)
			fits := width >= 1 && width <= 7 && n >= 0 && n < 1<<(8*max(width, 0))
			if !fits {
				if s != "" {
					t.Errorf("Fixed(%d, %d) = %q, but it does not fit", n, width, s)
				}
				continue
			}
			if len(s) != width {
				t.Errorf("Fixed(%d, %d) has %d bytes", n, width, len(s))
			}
			for _, b := range behind {
				if got, ok := impl.ReadFixed(s+b, width); got != n || !ok {
					t.Errorf("ReadFixed(%q, %d) = %d, %v, not %d", s+b, width, got, ok, n)
				}
			}
		}
	}
}

func TestReadFixedIsWrittenBack(t *testing.T) {
	for _, s := range []string{"\x00\x00\x00\x00\x00\x00\x00\x00", "\xff\xff\xff\xff\xff\xff\xff\xff", "\x80\x00\x01abcde", "hoisting"} {
		for width := 1; width <= 7; width++ {
			n, ok := impl.ReadFixed(s, width)
			if !ok || impl.Fixed(n, width) != s[:width] {
				t.Errorf("ReadFixed(%q, %d) = %d, %v", s, width, n, ok)
			}
		}
	}
}

func TestReadFixedRefuses(t *testing.T) {
	for _, c := range []struct {
		s     string
		width int
	}{
		{"", 0}, {"", 1}, {"", -1}, {"a", 0}, {"a", 2}, {"abcdef", 7}, {"abcdefgh", 8},
		{"abcdefghi", 8}, {"abcdefghi", 9}, {"abc", -1}, {"abc", math.MinInt}, {"abc", math.MaxInt},
	} {
		if n, ok := impl.ReadFixed(c.s, c.width); n != 0 || ok {
			t.Errorf("ReadFixed(%q, %d) = %d, %v", c.s, c.width, n, ok)
		}
	}
}

func TestVarTexts(t *testing.T) {
	for _, c := range []struct {
		n    int
		want string
	}{
		{0, "\x00"}, {1, "\x01"}, {127, "\x7f"}, {128, "\x80\x01"}, {300, "\xac\x02"},
		{16383, "\xff\x7f"}, {16384, "\x80\x80\x01"},
		{1 << 42, "\x80\x80\x80\x80\x80\x80\x01"},
		{impl.MaxVar, "\xff\xff\xff\xff\xff\xff\x7f"},
		{impl.MaxVar + 1, ""}, {-1, ""}, {math.MinInt, ""}, {math.MaxInt, ""},
	} {
		if got := impl.Var(c.n); got != c.want {
			t.Errorf("Var(%d) = %q, not %q", c.n, got, c.want)
		}
	}
}

func TestVarIsReadBack(t *testing.T) {
	for _, n := range nearPowers() {
		s := impl.Var(n)
		if n < 0 || n > impl.MaxVar {
			if s != "" {
				t.Errorf("Var(%d) = %q, but it is out of range", n, s)
			}
			continue
		}
		for _, b := range behind {
			if got, k := impl.ReadVar(s + b); got != n || k != len(s) {
				t.Errorf("ReadVar(%q) = %d, %d, not %d, %d", s+b, got, k, n, len(s))
			}
		}
		for k := range len(s) {
			if got, used := impl.ReadVar(s[:k]); got != 0 || used != 0 {
				t.Errorf("ReadVar(%q) = %d, %d, but it is cut off", s[:k], got, used)
			}
		}
	}
}

// Every text of up to three bytes from a set that has the edges of a byte: what is taken is what Var makes, and what Var makes is taken.
func TestReadVarTakesWhatVarMakes(t *testing.T) {
	edges := []byte{0, 1, 2, 126, 127, 128, 129, 254, 255}
	texts := []string{""}
	for from := 0; len(texts[from]) < 3; from++ {
		for _, b := range edges {
			texts = append(texts, texts[from]+string([]byte{b}))
		}
	}
	for _, s := range texts {
		n, k := impl.ReadVar(s)
		if k == 0 && n != 0 || k > len(s) || k > 0 && impl.Var(n) != s[:k] {
			t.Errorf("ReadVar(%q) = %d, %d", s, n, k)
		}
		if k == 0 && beginsWithVar(s) {
			t.Errorf("ReadVar(%q) takes nothing", s)
		}
	}
}

// beginsWithVar is right of texts of at most seven bytes: in these no number is too great.
func beginsWithVar(s string) bool {
	for i := range len(s) {
		if s[i] < 128 {
			return i == 0 || s[i] != 0
		}
	}
	return false
}

func TestReadVarRefuses(t *testing.T) {
	for _, s := range []string{
		"", "\x80", "\xff\xff\xff", "\xff\xff\xff\xff\xff\xff", "\xff\xff\xff\xff\xff\xff\xff",
		"\x80\x00", "\x80\x80\x00", "\xff\x00", "\xac\x82\x00", "\x80\x00\x01",
		"\x80\x80\x80\x80\x80\x80\x00",
		"\x80\x80\x80\x80\x80\x80\x80\x01", "\xff\xff\xff\xff\xff\xff\xff\x01", "\xff\xff\xff\xff\xff\xff\xff\x00",
		"\x80\x80\x80\x80\x80\x80\x80\x80\x80\x01", strings.Repeat("\x80", 100) + "\x01", strings.Repeat("\xff", 100),
	} {
		if n, k := impl.ReadVar(s); n != 0 || k != 0 {
			t.Errorf("ReadVar(%q) = %d, %d", s, n, k)
		}
	}
}

func TestHexOfEachByte(t *testing.T) {
	all, want := "", ""
	for b := range 256 {
		s, h := string([]byte{byte(b)}), fmt.Sprintf("%02x", b)
		if got := impl.Hex(s); got != h {
			t.Errorf("Hex(%q) = %q, not %q", s, got, h)
		}
		if got, ok := impl.Unhex(h); got != s || !ok {
			t.Errorf("Unhex(%q) = %q, %v", h, got, ok)
		}
		all, want = all+s, want+h
	}
	if impl.Hex(all) != want || impl.Hex("") != "" {
		t.Error("Hex of many bytes, or of none")
	}
	if got, ok := impl.Unhex(want); got != all || !ok {
		t.Error("Unhex of many bytes")
	}
	if got, ok := impl.Unhex(""); got != "" || !ok {
		t.Errorf("Unhex of the empty text = %q, %v", got, ok)
	}
}

// Every text of two bytes: just those that Hex makes are taken.
func TestUnhexTakesWhatHexMakes(t *testing.T) {
	taken := 0
	for n := range 1 << 16 {
		s := string([]byte{byte(n >> 8), byte(n)})
		got, ok := impl.Unhex(s)
		if ok && impl.Hex(got) != s || !ok && got != "" {
			t.Fatalf("Unhex(%q) = %q, %v", s, got, ok)
		}
		if ok {
			taken++
		}
	}
	if taken != 256 {
		t.Errorf("%d texts of two bytes are taken, not 256", taken)
	}
}

func TestUnhexRefuses(t *testing.T) {
	for _, s := range []string{"0", "f", "61f", "6F", "F6", "FF", "61fF", "6g", "g6", "6 ", " 61", "0x61", "61\n", "/0", "0:", "`0", "61\x00", "-1", "6\xff", "616161zz"} {
		if got, ok := impl.Unhex(s); got != "" || ok {
			t.Errorf("Unhex(%q) = %q, %v", s, got, ok)
		}
	}
}

// decNumbers are numbers of each count of digits, of both signs, with both ends of int.
func decNumbers() []int {
	l := nearPowers()
	ten := 1
	for range 19 {
		l = append(l, ten-1, ten, ten+1, 7*ten, 1-ten, -ten, -1-ten, -7*ten)
		ten *= 10
	}
	for n := -2000; n <= 2000; n++ {
		l = append(l, n)
	}
	return l
}

func TestDecTexts(t *testing.T) {
	for _, c := range []struct {
		n    int
		want string
	}{
		{0, "0"}, {7, "7"}, {10, "10"}, {-1, "-1"}, {-120, "-120"}, {1000000, "1000000"},
		{math.MaxInt, "9223372036854775807"}, {math.MinInt, "-9223372036854775808"}, {math.MinInt + 1, "-9223372036854775807"},
	} {
		if got := impl.Dec(c.n); got != c.want {
			t.Errorf("Dec(%d) = %q, not %q", c.n, got, c.want)
		}
	}
	for _, n := range decNumbers() {
		if got := impl.Dec(n); got != strconv.Itoa(n) {
			t.Errorf("Dec(%d) = %q", n, got)
		}
	}
}

func TestDecIsReadBack(t *testing.T) {
	for _, n := range decNumbers() {
		s := impl.Dec(n)
		got, ok := impl.ReadDec(s)
		if n >= -999999999 && n <= 999999999 {
			if got != n || !ok {
				t.Errorf("ReadDec(%q) = %d, %v", s, got, ok)
			}
		} else if got != 0 || ok {
			t.Errorf("ReadDec(%q) = %d, %v, but it has more than 9 digits", s, got, ok)
		}
	}
}

// Every text of up to four bytes from a set that has the edges of what a digit is: just those that Dec makes are taken.
func TestReadDecTakesWhatDecMakes(t *testing.T) {
	texts := []string{""}
	for from := 0; len(texts[from]) < 4; from++ {
		for _, b := range []byte("-+ /0159:") {
			texts = append(texts, texts[from]+string([]byte{b}))
		}
	}
	for _, s := range texts {
		n, err := strconv.Atoi(s)
		want := err == nil && strconv.Itoa(n) == s
		if !want {
			n = 0
		}
		if got, ok := impl.ReadDec(s); got != n || ok != want {
			t.Errorf("ReadDec(%q) = %d, %v, not %d, %v", s, got, ok, n, want)
		}
	}
}

func TestReadDecRefuses(t *testing.T) {
	for _, s := range []string{
		"", "-", "--1", "-0", "00", "01", "-01", "000000000", "+", "+1", "+0", " ", " 1", "1 ", "1 2", "\t1", "1\n",
		"1000000000", "-1000000000", "0000000001", "9223372036854775807", "-9223372036854775808", "18446744073709551617",
		"1-", "1.0", "1e3", "0x1", "1_0", "a", "1a", "/", ":", "\x00", "1\x00", "\xff", "\xb1", "٣",
	} {
		if n, ok := impl.ReadDec(s); n != 0 || ok {
			t.Errorf("ReadDec(%q) = %d, %v", s, n, ok)
		}
	}
}

func TestReadDecTakes(t *testing.T) {
	for _, c := range []struct {
		s    string
		want int
	}{
		{"0", 0}, {"9", 9}, {"-9", -9}, {"10", 10}, {"-100", -100}, {"100000000", 100000000},
		{"999999999", 999999999}, {"-999999999", -999999999}, {"123456789", 123456789}, {"-987654321", -987654321},
	} {
		if n, ok := impl.ReadDec(c.s); n != c.want || !ok {
			t.Errorf("ReadDec(%q) = %d, %v", c.s, n, ok)
		}
	}
}
