package impl

const maxNumText = 18

var hexDigits = [16]byte{'0', '1', '2', '3', '4', '5', '6', '7', '8', '9', 'A', 'B', 'C', 'D', 'E', 'F'}

func HexOf(n int64, digits int64) string {
	if digits < 1 || digits > 4 || !isWord(n) {
		return ""
	}
	out := make([]byte, digits+1)
	out[0] = '$'
	for at := digits; at >= 1; at-- {
		out[at] = hexDigits[n%16]
		n /= 16
	}
	if n != 0 {
		return ""
	}
	return string(out)
}

func ReadNum(s string) (int64, bool) {
	if s == "" || len(s) > maxNumText {
		return 0, false
	}
	switch s[0] {
	case '$':
		return wordOf(s[1:], 16)
	case '%':
		return wordOf(s[1:], 2)
	}
	return wordOf(s, 10)
}

func wordOf(digits string, base int64) (int64, bool) {
	if digits == "" {
		return 0, false
	}
	n := int64(0)
	for at := 0; at < len(digits); at++ {
		d := digitOf(digits[at])
		if d < 0 || d >= base {
			return 0, false
		}
		n = n*base + d
		// Refused at once: 17 digits in base 16 would pass 64 bits.
		if n > MaxWord {
			return 0, false
		}
	}
	return n, true
}

// -1 when it is none, which every base refuses.
func digitOf(c byte) int64 {
	for d := range int64(16) {
		if hexDigits[d] == c {
			return d
		}
	}
	return -1
}

func SignedOf(b int64) int64 {
	if !isByte(b) {
		return 0
	}
	if b > 127 {
		return b - 256
	}
	return b
}

func NameOk(s string) bool {
	if s == "" || len(s) > MaxName || isDecimal(s[0]) {
		return false
	}
	for at := 0; at < len(s); at++ {
		if !isNameByte(s[at]) {
			return false
		}
	}
	return true
}

func isByte(n int64) bool { return n >= 0 && n <= 255 }

func isWord(n int64) bool { return n >= 0 && n <= MaxWord }

func isDecimal(c byte) bool { return c >= '0' && c <= '9' }

func isNameByte(c byte) bool {
	return c >= 'a' && c <= 'z' || c == '_' || c == '.' || isDecimal(c)
}
