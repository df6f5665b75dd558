package tests

import (
	"math/bits"
	"testing"

	"loop.example/g00460/impl"
)

// someFlags have the carry and have it not, beside bits that are no flags.
var someFlags = []int64{0, 16, 15, 31, 128, 64, 32, 224, 240, 239, 255}

var noBytes = append([]int64{256, 257, 511}, noNumbers...)

func set(flag int64, is bool) int64 {
	if is {
		return flag
	}
	return 0
}

func modelAlu(op, a, b, f int64) (int64, int64) {
	carry := int64(0)
	if f&impl.FlC != 0 && (op == 1 || op == 3) {
		carry = 1
	}
	switch op {
	case 0, 1:
		sum := a + b + carry
		r := sum & 255
		return r, set(impl.FlZ, r == 0) | (a^b^sum)&16*2 | sum&256/16
	case 4:
		return a & b, set(impl.FlZ, a&b == 0) | impl.FlH
	case 5:
		return a ^ b, set(impl.FlZ, a == b)
	case 6:
		return a | b, set(impl.FlZ, a+b == 0)
	}
	less := a - b - carry
	r := less & 255
	flags := set(impl.FlZ, r == 0) | impl.FlN | (a^b^less)&16*2 | less&256/16
	if op == 7 {
		return a, flags
	}
	return r, flags
}

func TestAluAgainstBits(t *testing.T) {
	for op := range int64(8) {
		for a := range int64(256) {
			for b := range int64(256) {
				for _, f := range someFlags {
					v, g := impl.Alu(op, a, b, f)
					if wantV, wantG := modelAlu(op, a, b, f); v != wantV || g != wantG {
						t.Fatalf("Alu(%d, %d, %d, %d) = %d, %d, want %d, %d", op, a, b, f, v, g, wantV, wantG)
					}
				}
			}
		}
	}
}

// P4: what is added and what is taken away are what numbers say.
func TestSumsAndDifferencesAreWhatNumbersSay(t *testing.T) {
	for a := range int64(256) {
		for b := range int64(256) {
			for carry := range int64(2) {
				v, f := impl.Alu(1, a, b, carry*impl.FlC)
				if v+f&impl.FlC*16 != a+b+carry || f&impl.FlN != 0 || (f&impl.FlZ != 0) != (v == 0) {
					t.Fatalf("%d and %d and %d is %d, %d", a, b, carry, v, f)
				}
				v, f = impl.Alu(3, a, b, carry*impl.FlC)
				if v-f&impl.FlC*16 != a-b-carry || f&impl.FlN == 0 || (f&impl.FlZ != 0) != (v == 0) {
					t.Fatalf("%d less %d less %d is %d, %d", a, b, carry, v, f)
				}
			}
			sum, _ := impl.Alu(0, a, b, 255)
			if back, _ := impl.Alu(2, sum, b, 255); back != a {
				t.Fatalf("%d and %d less %d is %d", a, b, b, back)
			}
			if v, f := impl.Alu(7, a, b, 255); v != a || (f&impl.FlZ != 0) != (a == b) || (f&impl.FlC != 0) != (a < b) {
				t.Fatalf("%d held against %d is %d, %d", a, b, v, f)
			}
		}
	}
}

func TestReckoningOfWrongNumbers(t *testing.T) {
	nothing := func(v, f int64) {
		t.Helper()
		if v != 0 || f != 0 {
			t.Errorf("%d, %d is told, not 0 and 0", v, f)
		}
	}
	for _, op := range append([]int64{8, 9, 255}, noNumbers...) {
		nothing(impl.Alu(op, 200, 100, 16))
		nothing(impl.Turned(op, 200, 16))
	}
	for _, n := range noBytes {
		for op := range int64(8) {
			nothing(impl.Alu(op, n, 3, 16))
			nothing(impl.Alu(op, 3, n, 16))
			nothing(impl.Alu(op, 3, 2, n))
			nothing(impl.Turned(op, n, 16))
			nothing(impl.Turned(op, 3, n))
		}
		for _, down := range []bool{false, true} {
			nothing(impl.Stepped8(n, 16, down))
			nothing(impl.Stepped8(7, n, down))
		}
		nothing(impl.Daa(n, 16))
		nothing(impl.Daa(7, n))
		nothing(impl.AddWords(7, 8, n))
		nothing(impl.AddSigned(7, n))
	}
	for _, n := range noNumbers {
		nothing(impl.AddWords(n, 8, 128))
		nothing(impl.AddWords(8, n, 128))
		nothing(impl.AddSigned(n, 8))
	}
}

func TestStepped8(t *testing.T) {
	for v := range int64(256) {
		for f := range int64(256) {
			up, g := impl.Stepped8(v, f, false)
			wantUp, wantG := modelAlu(0, v, 1, 0)
			if up != wantUp || g != wantG&^impl.FlC|f&impl.FlC {
				t.Fatalf("Stepped8(%d, %d, false) = %d, %d", v, f, up, g)
			}
			down, g := impl.Stepped8(v, f, true)
			wantDown, wantG := modelAlu(2, v, 1, 0)
			if down != wantDown || g != wantG&^impl.FlC|f&impl.FlC {
				t.Fatalf("Stepped8(%d, %d, true) = %d, %d", v, f, down, g)
			}
			if back, _ := impl.Stepped8(up, f, true); back != v {
				t.Fatalf("%d more and less is %d", v, back)
			}
		}
	}
}

// What comes in and what goes out, told by shifts of nine bits.
func modelTurned(op int64, v uint8, carry uint8) (uint8, uint8) {
	switch op {
	case 0:
		return bits.RotateLeft8(v, 1), v >> 7
	case 1:
		return bits.RotateLeft8(v, -1), v & 1
	case 2:
		return v<<1 | carry, v >> 7
	case 3:
		return v>>1 | carry<<7, v & 1
	case 4:
		return v << 1, v >> 7
	case 5:
		return uint8(int8(v) >> 1), v & 1
	case 6:
		return bits.RotateLeft8(v, 4), 0
	}
	return v >> 1, v & 1
}

func TestTurned(t *testing.T) {
	for op := range int64(8) {
		for v := range int64(256) {
			for f := range int64(256) {
				r, g := impl.Turned(op, v, f)
				want, out := modelTurned(op, uint8(v), uint8(f>>4&1))
				if r != int64(want) || g != set(impl.FlZ, want == 0)|int64(out)*impl.FlC {
					t.Fatalf("Turned(%d, %d, %d) = %d, %d", op, v, f, r, g)
				}
			}
		}
	}
}

// P4: what is turned comes back.
func TestWhatIsTurnedComesBack(t *testing.T) {
	for v := range int64(256) {
		for _, f := range someFlags {
			for _, there := range [][2]int64{{0, 1}, {1, 0}, {2, 3}, {3, 2}, {6, 6}} {
				turned, g := impl.Turned(there[0], v, f)
				back, h := impl.Turned(there[1], turned, g)
				if back != v {
					t.Fatalf("%d turned by %d and by %d is %d", v, there[0], there[1], back)
				}
				if there[0] > 1 && there[0] < 6 && h&impl.FlC != f&impl.FlC {
					t.Fatalf("the carry of %d does not come back by %v", f, there)
				}
			}
			around, g := v, f
			for range 9 {
				around, g = impl.Turned(2, around, g)
			}
			if around != v || g&impl.FlC != f&impl.FlC {
				t.Fatalf("%d turned nine times is %d", v, around)
			}
		}
	}
}

func decimal(n int64) int64 { return n/10*16 + n%10 }

// P4: sums of decimal digits are put right.
func TestSumsOfDecimalDigitsArePutRight(t *testing.T) {
	for a := range int64(100) {
		for b := range int64(100) {
			for carry := range int64(2) {
				sum := a + b + carry
				v, f := impl.Daa(impl.Alu(1, decimal(a), decimal(b), carry*impl.FlC))
				if v != decimal(sum%100) || f != set(impl.FlZ, sum%100 == 0)|set(impl.FlC, sum > 99) {
					t.Fatalf("%d and %d and %d is %x, %d", a, b, carry, v, f)
				}
				less := a - b - carry
				v, f = impl.Daa(impl.Alu(3, decimal(a), decimal(b), carry*impl.FlC))
				if v != decimal((less+100)%100) || f != set(impl.FlZ, less%100 == 0)|impl.FlN|set(impl.FlC, less < 0) {
					t.Fatalf("%d less %d less %d is %x, %d", a, b, carry, v, f)
				}
			}
		}
	}
}

func modelDaa(a, f int64) (int64, int64) {
	r, flags := a, f&impl.FlN
	if f&impl.FlN != 0 {
		if f&impl.FlH != 0 {
			r -= 6
		}
		if f&impl.FlC != 0 {
			r -= 96
			flags |= impl.FlC
		}
	} else {
		if f&impl.FlH != 0 || a&15 >= 10 {
			r += 6
		}
		if f&impl.FlC != 0 || a >= 154 {
			r += 96
			flags |= impl.FlC
		}
	}
	return r & 255, flags | set(impl.FlZ, r&255 == 0)
}

func TestDaaOfAllBytes(t *testing.T) {
	for a := range int64(256) {
		for f := range int64(256) {
			v, g := impl.Daa(a, f)
			if wantV, wantG := modelDaa(a, f); v != wantV || g != wantG {
				t.Fatalf("Daa(%d, %d) = %d, %d, want %d, %d", a, f, v, g, wantV, wantG)
			}
		}
	}
}

var someWords = []int64{0, 1, 15, 16, 17, 127, 128, 255, 256, 257, 4080, 4095, 4096, 4097, 8191, 8192, 32767, 32768, 61439, 61440, 65280, 65519, 65520, 65534, 65535}

func moreWords() []int64 {
	d, out := dice(4), append([]int64{}, someWords...)
	for range 300 {
		out = append(out, int64(d.below(65536)))
	}
	return out
}

func TestAddWords(t *testing.T) {
	words := moreWords()
	for _, a := range words {
		for _, b := range words {
			for _, f := range someFlags {
				sum := a + b
				want := f&impl.FlZ | (a^b^sum)&4096/128 | sum>>16*impl.FlC
				if v, g := impl.AddWords(a, b, f); v != int64(uint16(sum)) || g != want {
					t.Fatalf("AddWords(%d, %d, %d) = %d, %d, want %d, %d", a, b, f, v, g, uint16(sum), want)
				}
			}
		}
	}
}

func TestAddSigned(t *testing.T) {
	for _, sp := range moreWords() {
		for b := range int64(256) {
			want := int64(uint16(sp) + uint16(int16(int8(b))))
			low := uint8(sp) + uint8(b)
			flags := set(impl.FlH, low&15 < uint8(b)&15) | set(impl.FlC, low < uint8(b))
			if v, g := impl.AddSigned(sp, b); v != want || g != flags {
				t.Fatalf("AddSigned(%d, %d) = %d, %d, want %d, %d", sp, b, v, g, want, flags)
			}
		}
	}
}
