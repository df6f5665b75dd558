package tests

import (
	"fmt"
	"math"
	"strconv"
	"strings"
	"testing"

	"loop.example/g00460/impl"
)

// noNumbers are numbers that are neither a byte nor a word.
var noNumbers = []int64{-1, -128, -65536, 65536, 1 << 32, math.MinInt64, math.MaxInt64}

func wantNum(t *testing.T, s string, want int64) {
	t.Helper()
	if n, ok := impl.ReadNum(s); !ok || n != want {
		t.Errorf("ReadNum(%q) = %d, %v, want %d", s, n, ok, want)
	}
}

func wantNoNum(t *testing.T, s string) {
	t.Helper()
	if n, ok := impl.ReadNum(s); ok || n != 0 {
		t.Errorf("ReadNum(%q) = %d, %v, want 0, false", s, n, ok)
	}
}

// P1: a number comes back from its digits.
func TestNumberComesBackFromItsDigits(t *testing.T) {
	for n := int64(0); n <= impl.MaxWord; n++ {
		for digits := int64(1); digits <= 4; digits++ {
			s := impl.HexOf(n, digits)
			if n>>(4*digits) != 0 {
				if s != "" {
					t.Fatalf("HexOf(%d, %d) = %q, want none", n, digits, s)
				}
				continue
			}
			if want := fmt.Sprintf("$%0*X", digits, n); s != want {
				t.Fatalf("HexOf(%d, %d) = %q, want %q", n, digits, s, want)
			}
			wantNum(t, s, n)
		}
		wantNum(t, strconv.FormatInt(n, 10), n)
		wantNum(t, "%"+strconv.FormatInt(n, 2), n)
	}
}

func TestHexOfWrong(t *testing.T) {
	for _, n := range noNumbers {
		for digits := int64(1); digits <= 4; digits++ {
			if s := impl.HexOf(n, digits); s != "" {
				t.Errorf("HexOf(%d, %d) = %q", n, digits, s)
			}
		}
	}
	for _, digits := range []int64{0, 5, -1, 16, math.MinInt64, math.MaxInt64} {
		for _, n := range []int64{0, 1, 255, 65535} {
			if s := impl.HexOf(n, digits); s != "" {
				t.Errorf("HexOf(%d, %d) = %q", n, digits, s)
			}
		}
	}
}

func TestReadNumAtItsLimits(t *testing.T) {
	for _, c := range []struct {
		sign, digits string
		want         int64
	}{
		{"", "65535", 65535}, {"", "1", 1}, {"", "0", 0},
		{"$", "FFFF", 65535}, {"$", "A0", 160}, {"$", "0", 0},
		{"%", "1111111111111111", 65535}, {"%", "0", 0},
	} {
		noughts := 18 - len(c.sign) - len(c.digits)
		for k := 0; k <= noughts; k++ {
			wantNum(t, c.sign+strings.Repeat("0", k)+c.digits, c.want)
		}
		wantNoNum(t, c.sign+strings.Repeat("0", noughts+1)+c.digits)
	}
}

func TestReadNumWrong(t *testing.T) {
	for _, s := range []string{
		"", "$", "%", "65536", "$10000", "%10000000000000000", "70000",
		"999999999999999999", "$FFFFFFFFFFFFFFFFF", "%11111111111111111",
		"$10000000000000000", "$10000000000000001", "$00010000000000000",
		"$ff", "$Ff", "$G", "%2", "%12", "1a", "1A", "A", "FF", "a",
		"-1", "+1", "-0", "$-1", "$+1", "%-1", " 1", "1 ", "1 2", "$ 1", "1\n",
		"$$1", "%%1", "$%1", "%$1", "0x10", "1_0", "1.0", "1\x00", "\x00", "/", ":", "$@", "\xff", "١",
	} {
		wantNoNum(t, s)
	}
	for c := 0; c < 256; c++ {
		s := string([]byte{byte(c)})
		if c < '0' || c > '9' {
			wantNoNum(t, s)
		}
		if (c < '0' || c > '9') && (c < 'A' || c > 'F') {
			wantNoNum(t, "$"+s)
		}
		if c != '0' && c != '1' {
			wantNoNum(t, "%"+s)
		}
	}
}

// P1: a byte and its number with a sign are one modulo 256.
func TestSignedOfIsTheByteModulo256(t *testing.T) {
	for b := int64(0); b < 256; b++ {
		n := impl.SignedOf(b)
		if n < -128 || n > 127 || (n-b)%256 != 0 {
			t.Errorf("SignedOf(%d) = %d", b, n)
		}
	}
	for _, b := range append([]int64{256, 257, 300, 384}, noNumbers...) {
		if n := impl.SignedOf(b); n != 0 {
			t.Errorf("SignedOf(%d) = %d, want 0", b, n)
		}
	}
}

func TestNameOk(t *testing.T) {
	for c := 0; c < 256; c++ {
		s := string([]byte{byte(c)})
		first := strings.Contains("abcdefghijklmnopqrstuvwxyz_.", s)
		later := first || strings.Contains("0123456789", s)
		if impl.NameOk(s) != first {
			t.Errorf("NameOk(%q) is not %v", s, first)
		}
		for _, name := range []string{"a" + s, "_" + s + ".", "." + s} {
			if impl.NameOk(name) != later {
				t.Errorf("NameOk(%q) is not %v", name, later)
			}
		}
	}
	for n := 0; n < 40; n++ {
		if s := strings.Repeat("a", n); impl.NameOk(s) != (n >= 1 && n <= impl.MaxName) {
			t.Errorf("NameOk(%q) = %v", s, impl.NameOk(s))
		}
	}
	for _, s := range []string{"main", ".", ".loop", "main.loop", "_", "neg", "a1", "x__..9"} {
		if !impl.NameOk(s) {
			t.Errorf("NameOk(%q) is false", s)
		}
	}
}
