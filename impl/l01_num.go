package impl

import "strings"

const MaxVar = 562949953421311

const maxFixedWidth = 7
const maxDecDigits = 9

// Seven bytes of seven bits hold just the numbers up to MaxVar.
const maxVarBytes = 7

const hexDigits = "0123456789abcdef"

func Fixed(n int, width int) string {
	if !isFixedWidth(width) || n < 0 || n>>(8*width) != 0 {
		return ""
	}
	b := make([]byte, width)
	for i := range width {
		b[i] = byte(n >> (8 * (width - 1 - i)))
	}
	return string(b)
}

func ReadFixed(s string, width int) (int, bool) {
	if !isFixedWidth(width) || len(s) < width {
		return 0, false
	}
	n := 0
	for i := range width {
		n = n<<8 | int(s[i])
	}
	return n, true
}

func isFixedWidth(width int) bool {
	return width >= 1 && width <= maxFixedWidth
}

func Var(n int) string {
	if n < 0 || n > MaxVar {
		return ""
	}
	b := make([]byte, 0, maxVarBytes)
	for n >= 128 {
		b = append(b, byte(n%128)+128)
		n /= 128
	}
	return string(append(b, byte(n)))
}

func ReadVar(s string) (int, int) {
	n := 0
	for i := range min(len(s), maxVarBytes) {
		n |= int(s[i]%128) << (7 * i)
		if s[i] >= 128 {
			continue
		}
		// A last byte 0 adds nothing to those ahead of it, so Var does not write it.
		if s[i] == 0 && i > 0 {
			return 0, 0
		}
		return n, i + 1
	}
	return 0, 0
}

func Hex(s string) string {
	b := make([]byte, 2*len(s))
	for i := range len(s) {
		b[2*i] = hexDigits[s[i]/16]
		b[2*i+1] = hexDigits[s[i]%16]
	}
	return string(b)
}

func Unhex(s string) (string, bool) {
	if len(s)%2 != 0 {
		return "", false
	}
	b := make([]byte, len(s)/2)
	for i := range len(b) {
		high, low := hexValue(s[2*i]), hexValue(s[2*i+1])
		if high < 0 || low < 0 {
			return "", false
		}
		b[i] = byte(16*high + low)
	}
	return string(b), true
}

// hexValue is -1 where c is no digit that Hex writes.
func hexValue(c byte) int {
	return strings.IndexByte(hexDigits, c)
}

func Dec(n int) string {
	// The least int has no opposite of its own kind, but one as a uint64.
	rest, ahead := uint64(n), 0
	if n < 0 {
		rest, ahead = -rest, 1
	}
	count := digitCount(rest)
	b := make([]byte, ahead+count)
	for i := range count {
		b[len(b)-1-i] = '0' + byte(rest%10)
		rest /= 10
	}
	if ahead == 1 {
		b[0] = '-'
	}
	return string(b)
}

func digitCount(n uint64) int {
	count := 1
	for n >= 10 {
		n /= 10
		count++
	}
	return count
}

func ReadDec(s string) (int, bool) {
	digits, below := strings.CutPrefix(s, "-")
	if len(digits) < 1 || len(digits) > maxDecDigits {
		return 0, false
	}
	n, ok := 0, true
scan:
	for i := range len(digits) {
		switch d := int(digits[i]) - '0'; {
		case d < 0, d > 9, d == 0 && i == 0 && s != "0":
			// A nought ahead is needless but in 0 itself; -0 is not written, either.
			n, ok = 0, false
			break scan
		default:
			n = 10*n + d
		}
	}
	if below {
		n = -n
	}
	return n, ok
}
