package tests

import (
	"fmt"
	"math"
	"strings"
	"testing"

	"loop.example/g00460/impl"
)

// The templates without the prefix, written out row by row, eight codes each;
// a point is a code that is none. Codes 64 .. 191 are made by their rule.
const lowRows = `
nop|ld bc,n16|ld [bc],a|inc bc|inc b|dec b|ld b,n8|rlca
ld [n16],sp|add hl,bc|ld a,[bc]|dec bc|inc c|dec c|ld c,n8|rrca
stop n8|ld de,n16|ld [de],a|inc de|inc d|dec d|ld d,n8|rla
jr e8|add hl,de|ld a,[de]|dec de|inc e|dec e|ld e,n8|rra
jr nz,e8|ld hl,n16|ld [hl+],a|inc hl|inc h|dec h|ld h,n8|daa
jr z,e8|add hl,hl|ld a,[hl+]|dec hl|inc l|dec l|ld l,n8|cpl
jr nc,e8|ld sp,n16|ld [hl-],a|inc sp|inc [hl]|dec [hl]|ld [hl],n8|scf
jr c,e8|add hl,sp|ld a,[hl-]|dec sp|inc a|dec a|ld a,n8|ccf`

const highRows = `
ret nz|pop bc|jp nz,n16|jp n16|call nz,n16|push bc|add a,n8|rst $00
ret z|ret|jp z,n16|.|call z,n16|call n16|adc a,n8|rst $08
ret nc|pop de|jp nc,n16|.|call nc,n16|push de|sub a,n8|rst $10
ret c|reti|jp c,n16|.|call c,n16|.|sbc a,n8|rst $18
ldh [n8],a|pop hl|ldh [c],a|.|.|push hl|and a,n8|rst $20
add sp,e8|jp hl|ld [n16],a|.|.|.|xor a,n8|rst $28
ldh a,[n8]|pop af|ldh a,[c]|di|.|push af|or a,n8|rst $30
ld hl,sp+e8|ld sp,hl|ld a,[n16]|ei|.|.|cp a,n8|rst $38`

// Cycles, a row of sixteen codes, when nothing is taken and when it is.
const coldRows = `
1322112152221121
1322112132221121
2322112122221121
2322333122221121
1111112111111121
1111112111111121
1111112111111121
2222221211111121
1111112111111121
1111112111111121
1111112111111121
1111112111111121
2334342424303624
2330342424303024
3320042441400024
3321042432410024`

const takenRows = `
1322112152221121
1322112132221121
3322112132221121
3322333132221121
1111112111111121
1111112111111121
1111112111111121
2222221211111121
1111112111111121
1111112111111121
1111112111111121
1111112111111121
5344642454406624
5340642454406024
3320042441400024
3321042432410024`

const regRow = "b c d e h l [hl] a"

func rowsOf(s string) []string {
	return strings.Split(strings.ReplaceAll(s[1:], "\n", "|"), "|")
}

func modelTemplates() (plain [256]string, prefixed [256]string) {
	regs := strings.Fields(regRow)
	copy(plain[:64], rowsOf(lowRows))
	copy(plain[192:], rowsOf(highRows))
	for y := range 8 {
		for z := range 8 {
			plain[64+8*y+z] = "ld " + regs[y] + "," + regs[z]
			plain[128+8*y+z] = strings.Fields("add adc sub sbc and xor or cp")[y] + " a," + regs[z]
			prefixed[8*y+z] = strings.Fields("rlc rrc rl rr sla sra swap srl")[y] + " " + regs[z]
			for x, word := range []string{"bit", "res", "set"} {
				prefixed[64*(x+1)+8*y+z] = fmt.Sprintf("%s %d,%s", word, y, regs[z])
			}
		}
	}
	plain[118] = "halt"
	for code := range plain {
		if plain[code] == "." {
			plain[code] = ""
		}
	}
	return plain, prefixed
}

// limitOf is the greatest Imm of a template, 0 without a hole.
func limitOf(template string) int64 {
	switch {
	case strings.Contains(template, "n16"):
		return 65535
	case strings.Contains(template, "n8"), strings.Contains(template, "e8"):
		return 255
	}
	return 0
}

// someImms are right ones up to a limit, its ends and the ends of halves among them.
func someImms(limit int64) []int64 {
	var out []int64
	for _, n := range []int64{0, 1, 9, 10, 127, 128, 171, 254, 255, 256, 4095, 4096, 32767, 32768, 43981, 65280, 65535} {
		if n <= limit {
			out = append(out, n)
		}
	}
	return out
}

func allRightIns() []impl.Ins {
	var out []impl.Ins
	plain, prefixed := modelTemplates()
	for code := range int64(256) {
		if plain[code] != "" {
			for _, imm := range someImms(limitOf(plain[code])) {
				out = append(out, impl.Ins{Code: code, Imm: imm})
			}
		}
		if prefixed[code] != "" {
			out = append(out, impl.Ins{Code: code, Cb: true})
		}
	}
	return out
}

func TestTemplates(t *testing.T) {
	plain, prefixed := modelTemplates()
	for code := range int64(256) {
		if got := impl.TemplateOf(code, false); got != plain[code] {
			t.Errorf("TemplateOf(%d, false) = %q, want %q", code, got, plain[code])
		}
		if got := impl.TemplateOf(code, true); got != prefixed[code] {
			t.Errorf("TemplateOf(%d, true) = %q, want %q", code, got, prefixed[code])
		}
	}
}

// P3: no two codes have one template.
func TestNoTwoCodesHaveOneTemplate(t *testing.T) {
	seen := map[string]string{}
	for code := range int64(256) {
		for _, cb := range []bool{false, true} {
			template := impl.TemplateOf(code, cb)
			if template == "" {
				continue
			}
			here := fmt.Sprint(code, cb)
			if other, ok := seen[template]; ok {
				t.Errorf("%q is of %s and of %s", template, other, here)
			}
			seen[template] = here
		}
	}
	if len(seen) != 512-12 {
		t.Errorf("there are %d templates", len(seen))
	}
}

func TestLengths(t *testing.T) {
	plain, prefixed := modelTemplates()
	byLimit := map[int64]int64{0: 1, 255: 2, 65535: 3}
	for code := range int64(256) {
		want := byLimit[limitOf(plain[code])]
		if plain[code] == "" {
			want = 0
		}
		if got := impl.LengthOf(code, false); got != want {
			t.Errorf("LengthOf(%d, false) = %d, want %d", code, got, want)
		}
		if got := impl.LengthOf(code, true); got != 2 || prefixed[code] == "" {
			t.Errorf("LengthOf(%d, true) = %d", code, got)
		}
	}
}

func modelPrefixCycles(code int64) int64 {
	switch {
	case code&7 != 6:
		return 2
	case code>>6 == 1:
		return 3
	}
	return 4
}

func TestCycles(t *testing.T) {
	cold := strings.ReplaceAll(coldRows, "\n", "")
	taken := strings.ReplaceAll(takenRows, "\n", "")
	for code := range int64(256) {
		if got := impl.CyclesOf(code, false, false); got != int64(cold[code]-'0') {
			t.Errorf("CyclesOf(%d, false, false) = %d, want %c", code, got, cold[code])
		}
		if got := impl.CyclesOf(code, false, true); got != int64(taken[code]-'0') {
			t.Errorf("CyclesOf(%d, false, true) = %d, want %c", code, got, taken[code])
		}
		for _, is := range []bool{false, true} {
			if got := impl.CyclesOf(code, true, is); got != modelPrefixCycles(code) {
				t.Errorf("CyclesOf(%d, true, %v) = %d", code, is, got)
			}
		}
	}
}

func wantNoIns(t *testing.T, i impl.Ins) {
	t.Helper()
	if impl.InsOk(i) || impl.InsBytes(i) != "" || impl.InsText(i) != "" {
		t.Errorf("%v is taken: %q, %q", i, impl.InsBytes(i), impl.InsText(i))
	}
}

func TestCodesThatAreNone(t *testing.T) {
	for _, cb := range []bool{false, true} {
		for _, code := range append([]int64{256, 256 + 62, 256 + 203, -256}, noNumbers...) {
			if impl.TemplateOf(code, cb) != "" || impl.LengthOf(code, cb) != 0 || impl.CyclesOf(code, cb, true) != 0 || impl.CyclesOf(code, cb, false) != 0 {
				t.Errorf("code %d, %v is taken", code, cb)
			}
			wantNoIns(t, impl.Ins{Code: code, Cb: cb})
		}
	}
	for _, code := range []int64{203, 211, 219, 221, 227, 228, 235, 236, 237, 244, 252, 253} {
		wantNoIns(t, impl.Ins{Code: code})
		if !impl.InsOk(impl.Ins{Code: code, Cb: true}) {
			t.Errorf("code %d behind the prefix is refused", code)
		}
	}
}

func TestImmFitsItsHole(t *testing.T) {
	for code := range int64(256) {
		for _, cb := range []bool{false, true} {
			template := impl.TemplateOf(code, cb)
			if template == "" {
				continue
			}
			limit := limitOf(template)
			for _, imm := range []int64{0, limit} {
				if !impl.InsOk(impl.Ins{Code: code, Cb: cb, Imm: imm}) {
					t.Errorf("%s with %d is refused", template, imm)
				}
			}
			for _, imm := range []int64{limit + 1, limit + 256, 65536, -1, -128, math.MinInt64, math.MaxInt64, 1 << 32} {
				wantNoIns(t, impl.Ins{Code: code, Cb: cb, Imm: imm})
			}
		}
	}
}

func modelBytes(i impl.Ins) string {
	if i.Cb {
		return string([]byte{203, byte(i.Code)})
	}
	all := []byte{byte(i.Code), byte(i.Imm), byte(i.Imm >> 8)}
	switch limitOf(impl.TemplateOf(i.Code, false)) {
	case 0:
		return string(all[:1])
	case 255:
		return string(all[:2])
	}
	return string(all)
}

// P3: a right instruction comes back from its bytes.
func TestInsComesBackFromItsBytes(t *testing.T) {
	for _, i := range allRightIns() {
		b := impl.InsBytes(i)
		if !impl.InsOk(i) || b != modelBytes(i) || int64(len(b)) != impl.LengthOf(i.Code, i.Cb) {
			t.Fatalf("InsBytes(%v) = %q, want %q", i, b, modelBytes(i))
		}
		for _, ahead := range []string{"", "\x00", "\xcb\x01\xd3"} {
			for _, behind := range []string{"", "\x00", "\xcb\xff"} {
				got, n := impl.ReadIns(ahead+b+behind, int64(len(ahead)))
				if got != i || n != int64(len(b)) {
					t.Fatalf("ReadIns(%q, %d) = %v, %d, want %v", ahead+b+behind, len(ahead), got, n, i)
				}
			}
		}
		for cut := range len(b) {
			if got, n := impl.ReadIns(b[:cut], 0); got != (impl.Ins{}) || n != 0 {
				t.Fatalf("ReadIns(%q, 0) = %v, %d, but something lacks", b[:cut], got, n)
			}
		}
	}
}

func TestReadInsWrong(t *testing.T) {
	for _, s := range []string{"", "\x00", "\xcb", "\x3e", "\x01\x02", "\x00\x01\x02\x03", "\xcb\x37"} {
		for _, at := range []int64{-1, int64(len(s)), int64(len(s)) + 1, math.MinInt64, math.MaxInt64, 1 << 32, -1 << 32} {
			if got, n := impl.ReadIns(s, at); got != (impl.Ins{}) || n != 0 {
				t.Errorf("ReadIns(%q, %d) = %v, %d", s, at, got, n)
			}
		}
	}
	for _, code := range []byte{211, 219, 221, 227, 228, 235, 236, 237, 244, 252, 253} {
		if got, n := impl.ReadIns(string([]byte{code, 0, 0, 0}), 0); got != (impl.Ins{}) || n != 0 {
			t.Errorf("ReadIns of %d = %v, %d", code, got, n)
		}
	}
	if got, n := impl.ReadIns("\xcb\xcb\x00", 0); got != (impl.Ins{Code: 203, Cb: true}) || n != 2 {
		t.Errorf("the prefix twice is %v, %d", got, n)
	}
}

func modelText(i impl.Ins) string {
	template := impl.TemplateOf(i.Code, i.Cb)
	for _, hole := range []struct{ name, text string }{
		{"n16", fmt.Sprintf("$%04X", i.Imm)},
		{"n8", fmt.Sprintf("$%02X", i.Imm)},
		{"e8", fmt.Sprint(int8(i.Imm))},
	} {
		template = strings.ReplaceAll(template, hole.name, hole.text)
	}
	return template
}

// P3: a right instruction comes back from its text.
func TestInsComesBackFromItsText(t *testing.T) {
	seen := map[string]impl.Ins{}
	for _, i := range allRightIns() {
		s := impl.InsText(i)
		if s != modelText(i) {
			t.Fatalf("InsText(%v) = %q, want %q", i, s, modelText(i))
		}
		if other, ok := seen[s]; ok {
			t.Fatalf("%q is the text of %v and of %v", s, other, i)
		}
		seen[s] = i
		if got, ok := impl.ReadInsText(s); !ok || got != i {
			t.Fatalf("ReadInsText(%q) = %v, %v, want %v", s, got, ok, i)
		}
	}
	for b := range int64(256) {
		for _, code := range []int64{6, 24, 56, 232, 248, 254} {
			i := impl.Ins{Code: code, Imm: b}
			if got, ok := impl.ReadInsText(impl.InsText(i)); !ok || got != i || impl.InsText(i) != modelText(i) {
				t.Fatalf("ReadInsText(%q) = %v, %v, want %v", impl.InsText(i), got, ok, i)
			}
		}
	}
}

func TestSignedHoles(t *testing.T) {
	for s, imm := range map[string]int64{"0": 0, "5": 5, "127": 127, "-128": 128, "-127": 129, "-1": 255} {
		for ahead, code := range map[string]int64{"jr ": 24, "jr nz,": 32, "jr c,": 56, "add sp,": 232, "ld hl,sp+": 248} {
			want := impl.Ins{Code: code, Imm: imm}
			if got, ok := impl.ReadInsText(ahead + s); !ok || got != want || impl.InsText(want) != ahead+s {
				t.Errorf("ReadInsText(%q) = %v, %v, want %v", ahead+s, got, ok, want)
			}
		}
	}
}

func wantNoText(t *testing.T, s string) {
	t.Helper()
	if got, ok := impl.ReadInsText(s); ok || got != (impl.Ins{}) {
		t.Errorf("ReadInsText(%q) = %v, %v", s, got, ok)
	}
}

func TestReadInsTextWrong(t *testing.T) {
	for _, s := range []string{
		"", " ", "fly", "ld", "ld a", "ld a,", "LD a,b", "ld A,b", "n8", "e8", "n16", "$05",
		"jr 128", "jr -129", "jr 255", "jr 256", "jr -0", "jr 05", "jr -05", "jr +5", "jr --5", "jr $05", "jr -$05", "jr e8", "jr ", "jr", "jr -", "jr %1", "jr z 5", "jr nz,-", "jr 4294967295", "jr -4294967295",
		"ld a,5", "ld a,$5", "ld a,$005", "ld a,$100", "ld a,$ff", "ld a,$fF", "ld a,$0g", "ld a,n8", "ld a,$", "ld a,-1", "ld a,%00000001", "ld a,-$05",
		"jp $150", "jp $00150", "jp $10000", "jp $abcd", "jp $ABCd", "jp 336", "jp n16", "jp -1", "jp $", "jp $-150",
		"ld [$C000],b", "ld a,[$C0]", "ld a,[$C000", "ld a,[$C0000]", "ldh [$0001],a", "ldh a,[$FFFF]", "ldh a,[$F]", "ldh a,[$FF", "ldh a,$FF]", "ldh a,[]", "ldh a,[", "ld [],sp", "ld [],a", "ld [,a",
		"rst $39", "rst $8", "rst 8", "rst $40", "rst $0008", "rst n8", "rst",
		"nop ", " nop", "nop $00", "halt $00", "stop", "stop 0", "stop $0", "ld  a,b", "ld a, b", "ld a ,b", "ld a,b ", "add b", "add a", "bit 8,b", "bit -1,b", "bit 7", "bit 7, b", "bit 07,b", "swap [bc]", "cb", "ld hl,sp", "ld hl,sp+", "ld hl,sp-1", "ld hl,sp++1", "ld [hl],[hl]", "ld hl+,a", "push sp", "pop sp", "ld af,$0000", "ret po", "jp [hl]", "di\n", "\x00nop", "nop\x00",
	} {
		wantNoText(t, s)
	}
}

func TestReadInsTextOfChangedTexts(t *testing.T) {
	right := map[string]bool{}
	for _, i := range allRightIns() {
		right[impl.InsText(i)] = true
	}
	for s := range right {
		wantNoText(t, s+" ")
		wantNoText(t, " "+s)
		wantNoText(t, s+strings.Repeat(" ", 20-len(s)))
		wantNoText(t, s+strings.Repeat(" ", 21-len(s)))
		wantNoText(t, strings.ToUpper(s))
		if small := strings.ToLower(s); small != s {
			wantNoText(t, small)
		}
	}
	for _, s := range []string{strings.Repeat("0", 20), strings.Repeat("0", 21), "jr " + strings.Repeat("0", 16) + "5", "jr " + strings.Repeat("0", 17) + "5", "ld a,$" + strings.Repeat("0", 12) + "05", "ld a,$" + strings.Repeat("0", 13) + "05", strings.Repeat("nop", 1000)} {
		wantNoText(t, s)
	}
}

func TestWhatIsReadIsItsText(t *testing.T) {
	d := dice(3)
	all := allRightIns()
	const letters = "abcdehlnprstz019AF$-+,[] "
	for range 3000 {
		s := []byte(impl.InsText(all[d.below(len(all))]))
		s[d.below(len(s))] = letters[d.below(len(letters))]
		i, ok := impl.ReadInsText(string(s))
		if ok != (impl.InsText(i) == string(s)) || !ok && i != (impl.Ins{}) {
			t.Fatalf("ReadInsText(%q) = %v, %v", s, i, ok)
		}
	}
}

func TestWhatIsReadIsItsBytes(t *testing.T) {
	for a := range 256 {
		for b := range 256 {
			s := string([]byte{byte(a), byte(b), byte(a + b)})
			i, n := impl.ReadIns(s, 0)
			if impl.InsBytes(i) != s[:n] && n > 0 || n == 0 && i != (impl.Ins{}) {
				t.Fatalf("ReadIns(%q, 0) = %v, %d", s, i, n)
			}
		}
	}
}
