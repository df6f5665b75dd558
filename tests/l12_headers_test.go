package tests

import (
	"math"
	"strings"
	"testing"

	"loop.example/g00460/impl"
)

var wholeBanks = []int{2, 3, 4, 5, 7, 8, 9, 15, 16}

// wrongRoms are none: too few bytes, too many, or a bank that is not whole.
func wrongRoms() []string {
	out := []string{"", "x", "\xff", romOf(1), romOf(1)[1:], romOf(1) + "x", romOf(17), romOf(18), romOf(32), romOf(300)}
	for _, banks := range wholeBanks {
		rom := romOf(banks)
		out = append(out, rom[1:], rom+"x", rom[:len(rom)-128], rom+"\x00")
	}
	return out
}

// modelHeaderSum and modelWholeSum take numbers of their size, which wrap of themselves.
func modelHeaderSum(rom string) int64 {
	sum := uint8(0)
	for at := 52; at < 77; at++ {
		sum = sum - rom[at] - 1
	}
	return int64(sum)
}

func modelWholeSum(rom string) int64 {
	sum := uint16(0)
	for at := range len(rom) {
		if at != 78 && at != 79 {
			sum += uint16(rom[at])
		}
	}
	return int64(sum)
}

func modelTitleOk(title string) bool {
	for _, b := range []byte(title) {
		if b < ' ' || b > '~' {
			return false
		}
	}
	return true
}

// doubledBanks has, for so many banks, how often two are doubled.
var doubledBanks = []int64{0, 0, 0, 1, 1, 2, 2, 2, 2, 3, 3, 3, 3, 3, 3, 3, 3}

func modelFixed(rom, title string, kind int64) (string, bool) {
	banks := len(rom) / 256
	if banks*256 != len(rom) || banks < 1 || banks > 16 || len(title) > 15 || !modelTitleOk(title) || kind < 0 || kind > 2 {
		return "", false
	}
	doubled := doubledBanks[banks]
	rom += strings.Repeat("\x00", []int{512, 1024, 2048, 4096}[doubled]-len(rom))
	for k := range int64(15) {
		rom = changed(rom, 52+k, (title + strings.Repeat("\x00", 15))[k])
	}
	rom = changed(changed(rom, 71, byte(kind)), 72, byte(doubled))
	rom = changed(rom, 77, byte(modelHeaderSum(rom)))
	whole := modelWholeSum(rom)
	return changed(changed(rom, 78, byte(whole/256)), 79, byte(whole%256)), true
}

func modelHeaderOf(rom string) (impl.Header, bool) {
	banks := len(rom) / 256
	if banks*256 != len(rom) || banks != 2 && banks != 4 && banks != 8 && banks != 16 {
		return impl.Header{}, false
	}
	title := rom[52:67]
	for strings.HasSuffix(title, "\x00") {
		title = title[:len(title)-1]
	}
	h := impl.Header{Title: title, Kind: int64(rom[71]), Banks: int64(banks), Sum: int64(rom[77]), Whole: int64(rom[78])*256 + int64(rom[79])}
	if !modelTitleOk(title) || h.Kind > 2 || int64(rom[72]) != doubledBanks[banks] || h.Sum != modelHeaderSum(rom) || h.Whole != modelWholeSum(rom) {
		return impl.Header{}, false
	}
	return h, true
}

// wantHeader asks for what the model tells of a rom; it tells whether there is a header.
func wantHeader(t *testing.T, rom string) bool {
	t.Helper()
	want, ok := modelHeaderOf(rom)
	if h, is := impl.HeaderOf(rom); is != ok || h != want {
		t.Fatalf("HeaderOf(%s) = %v, %v, want %v, %v", brief(rom), h, is, want, ok)
	}
	return ok
}

// wantFixed asks for what the model tells, and holds it against P12; it tells whether it is fixed.
func wantFixed(t *testing.T, rom, title string, kind int64) bool {
	t.Helper()
	want, ok := modelFixed(rom, title, kind)
	f, is := impl.Fixed(rom, title, kind)
	if is != ok || f != want {
		t.Fatalf("Fixed(%s, %q, %d) = %s of %d, %v, want %s of %d, %v", brief(rom), title, kind, brief(f), len(f), is, brief(want), len(want), ok)
	}
	if !ok {
		return false
	}
	h, is := impl.HeaderOf(f)
	if !is || h != (impl.Header{Title: title, Kind: kind, Banks: int64(len(f) / 256), Sum: impl.HeaderSum(f), Whole: impl.WholeSum(f)}) {
		t.Fatalf("%s, %q, %d: its header is %v, %v", brief(rom), title, kind, h, is)
	}
	if again, is := impl.Fixed(f, title, kind); !is || again != f {
		t.Fatalf("%s, %q, %d: fixed again it is another one, %v", brief(rom), title, kind, is)
	}
	headerless := func(s string) string { return s[:52] + s[67:71] + s[73:77] + s[80:] }
	if got := headerless(f); got[:len(rom)-20] != headerless(rom) || strings.Trim(got[len(rom)-20:], "\x00") != "" {
		t.Fatalf("%s, %q, %d: another byte than those of the header changed", brief(rom), title, kind)
	}
	return true
}

func TestNumbersOfHeaders(t *testing.T) {
	if impl.TitleAt != 52 || impl.TitleMax != 15 || impl.KindAt != 71 || impl.SizeAt != 72 || impl.SumAt != 77 || impl.WholeAt != 78 {
		t.Error("another number")
	}
}

func TestSums(t *testing.T) {
	for _, rom := range wrongRoms() {
		if impl.HeaderSum(rom) != -1 || impl.WholeSum(rom) != -1 {
			t.Error(len(rom), impl.HeaderSum(rom), impl.WholeSum(rom))
		}
	}
	d := dice(121)
	for _, banks := range wholeBanks {
		for _, rom := range []string{romOf(banks), strings.Repeat("\x00", banks*256), strings.Repeat("\xff", banks*256), strings.Repeat("\x80", banks*256), bytesOf(&d, banks*256)} {
			if impl.HeaderSum(rom) != modelHeaderSum(rom) || impl.WholeSum(rom) != modelWholeSum(rom) {
				t.Error(banks, impl.HeaderSum(rom), impl.WholeSum(rom))
			}
		}
	}
	// 25 bytes less 1 each; all bytes but two.
	blank, full := strings.Repeat("\x00", 512), strings.Repeat("\xff", 4096)
	if impl.HeaderSum(blank) != 231 || impl.WholeSum(blank) != 0 || impl.HeaderSum(full) != 0 || impl.WholeSum(full) != 4094*255%65536 {
		t.Error(impl.HeaderSum(blank), impl.WholeSum(blank), impl.HeaderSum(full), impl.WholeSum(full))
	}
}

func TestWhichBytesSumsAreOf(t *testing.T) {
	blank := strings.Repeat("\x00", 768)
	for at := range int64(768) {
		for _, v := range []byte{1, 127, 128, 255} {
			rom := changed(blank, at, v)
			sum, whole := int64(231), int64(v)
			if at >= 52 && at <= 76 {
				sum = (231 - int64(v) + 256) % 256
			}
			if at == 78 || at == 79 {
				whole = 0
			}
			if impl.HeaderSum(rom) != sum || impl.WholeSum(rom) != whole {
				t.Errorf("%d at %d: %d, %d, want %d, %d", v, at, impl.HeaderSum(rom), impl.WholeSum(rom), sum, whole)
			}
		}
	}
}

func TestFixed(t *testing.T) {
	sizes := map[int]int{1: 2, 2: 2, 3: 4, 4: 4, 5: 8, 6: 8, 7: 8, 8: 8, 9: 16, 10: 16, 11: 16, 12: 16, 13: 16, 14: 16, 15: 16, 16: 16}
	for banks, want := range sizes {
		for _, kind := range allKinds {
			rom := romOf(banks)
			if !wantFixed(t, rom, "GAME", kind) {
				t.Fatal("not fixed", banks)
			}
			f, _ := impl.Fixed(rom, "GAME", kind)
			if len(f) != want*256 || f[52:67] != "GAME\x00\x00\x00\x00\x00\x00\x00\x00\x00\x00\x00" || f[71] != byte(kind) || 2<<f[72] != want || f[:52] != rom[:52] || f[67:71] != rom[67:71] || f[73:77] != rom[73:77] || f[80:256] != rom[80:256] {
				t.Errorf("%d banks: %q", banks, f[:80])
			}
		}
	}
	for _, rom := range wrongRoms() {
		if wantFixed(t, rom, "GAME", 0) != (len(rom) == 256) {
			t.Error(len(rom))
		}
	}
	for _, n := range []int{0, 1, 100, 255, 257, 383, 511, 513, 4095, 4097, 4352, 70000} {
		if wantFixed(t, strings.Repeat("x", n), "", 1) {
			t.Error(n)
		}
	}
}

func TestTitles(t *testing.T) {
	rom := romOf(3)
	for _, title := range []string{"", " ", "~", "a", "GAME", "   ", "GAME ", "123456789012345", strings.Repeat(" ", 15), strings.Repeat("~", 15), "A-Z, a-z; 0-9!"} {
		if !wantFixed(t, rom, title, 2) {
			t.Errorf("%q is not fixed", title)
		}
	}
	for _, title := range []string{"1234567890123456", strings.Repeat(" ", 16), strings.Repeat("\x00", 16), strings.Repeat("x", 100000), "\x00", "GAME\x00", "GA\x00ME", "\x00GAME", "é", "\xff", "GAME\n", "\t"} {
		if wantFixed(t, rom, title, 2) {
			t.Errorf("%q is fixed", title)
		}
	}
	for v := range 256 {
		for _, at := range []int64{0, 7, 14} {
			title := changed("ABCDEFGHIJKLMNO", at, byte(v))
			if wantFixed(t, rom, title, 0) != (v >= 32 && v <= 126) {
				t.Errorf("%q", title)
			}
		}
	}
}

func TestKindsOfRoms(t *testing.T) {
	for _, kind := range append([]int64{-1, 0, 1, 2, 3, 4, 255, 256, 257, 258, math.MinInt32}, farNumbers...) {
		if wantFixed(t, romOf(2), "GAME", kind) != (kind >= 0 && kind <= 2) {
			t.Error(kind)
		}
	}
}

// resummed is the rom with sums that are right, whatever its header says.
func resummed(rom string) string {
	return resummedWhole(changed(rom, 77, byte(modelHeaderSum(rom))))
}

func resummedWhole(rom string) string {
	whole := modelWholeSum(rom)
	return changed(changed(rom, 78, byte(whole/256)), 79, byte(whole%256))
}

func TestHeaderOf(t *testing.T) {
	for _, rom := range wrongRoms() {
		if wantHeader(t, rom) {
			t.Error(len(rom))
		}
	}
	for banks := 2; banks <= 16; banks++ {
		for size := range 256 {
			rom := changed(changed(romOf(banks), 71, 1), 72, byte(size))
			for at := int64(52); at < 67; at++ {
				rom = changed(rom, at, 'x')
			}
			right := banks == 2 && size == 0 || banks == 4 && size == 1 || banks == 8 && size == 2 || banks == 16 && size == 3
			if wantHeader(t, resummed(rom)) != right {
				t.Error(banks, size)
			}
		}
	}
	f, _ := impl.Fixed(romOf(4), "GAME", 1)
	for kind := range 256 {
		if wantHeader(t, resummed(changed(f, 71, byte(kind)))) != (kind <= 2) {
			t.Error(kind)
		}
	}
	// Noughts at its end alone are none of the title's.
	for title, right := range map[string]bool{
		"GA\x00ME": false, "\x00GAME": false, "GAME\x00\x00\x00\x00\x00\x00\x00\x00\x00\x00X": false, "GAME\x00": true, "": true, "\x00\x00": true, "GAME \x00": true, " ": true, "123456789012345": true, "\x1f": false, "\x7f": false, "\x80": false, "12345678901234\xff": false, "12345678901234\x1f": false, "12345678901234\x00": true,
	} {
		rom := f[:52] + title + strings.Repeat("\x00", 15-len(title)) + f[67:]
		if wantHeader(t, resummed(rom)) != right {
			t.Errorf("%q", title)
		}
		if h, ok := impl.HeaderOf(resummed(rom)); ok && h.Title != strings.TrimRight(title, "\x00") {
			t.Errorf("%q is %q", title, h.Title)
		}
	}
}

func TestHeadersWithAByteTurned(t *testing.T) {
	for _, banks := range []int{2, 4, 8, 16} {
		f, _ := impl.Fixed(romOf(banks), "A GAME", 1)
		if !wantHeader(t, f) {
			t.Fatal("no header", banks)
		}
		for at := range int64(len(f)) {
			// One byte turned alone makes a sum wrong, wherever it stands.
			for _, turn := range []byte{1, 128, 255} {
				if wantHeader(t, changed(f, at, f[at]^turn)) {
					t.Errorf("byte %d of %d banks", at, banks)
				}
			}
		}
		for at := int64(50); at < 82; at++ {
			for v := range 256 {
				wantHeader(t, changed(f, at, byte(v)))
				wantHeader(t, resummed(changed(f, at, byte(v))))
				// With the sum of the whole put right that of the header still tells what it is of, and itself.
				if wantHeader(t, resummedWhole(changed(f, at, byte(v)))) != (byte(v) == f[at] || at < 52 || at > 77) {
					t.Errorf("%d at %d of %d banks", v, at, banks)
				}
			}
		}
	}
}

// P12: what is fixed has a right header and is else as it was; fixed again nothing changes.
func TestWhatIsFixedHasARightHeader(t *testing.T) {
	d := dice(122)
	fixed := 0
	for range 4000 {
		rom := bytesOf(&d, 256*(1+d.below(16)))
		title := ""
		for range d.below(17) {
			title += string([]byte{byte(32 + d.below(95))})
		}
		if d.below(10) == 0 && title != "" {
			title = changed(title, int64(d.below(len(title))), byte(d.below(256)))
		}
		if wantFixed(t, rom, title, int64(d.below(13)/4)) {
			fixed++
		}
		wantHeader(t, rom)
		// What it was fixed for before leaves nothing behind.
		if f, ok := impl.Fixed(rom, title, 2); ok {
			other, _ := impl.Fixed(f, "X", 1)
			if back, _ := impl.Fixed(other, title, 2); back != f {
				t.Fatalf("%q: %q", title, back[:80])
			}
		}
	}
	if fixed < 2000 || fixed > 3900 {
		t.Error("too few of one kind", fixed)
	}
}

// P12, P11: what is linked can be fixed, and runs as it did.
func TestWhatIsLinkedIsFixed(t *testing.T) {
	rom, _, code := impl.Linked(objects{linkedSource(t, "section a,rom0,0|jp start|section b,rom0,80|start: ld a,5|halt")})
	if code != impl.LkOk || !wantFixed(t, rom, "GAME", impl.CtFive) {
		t.Fatal(code)
	}
	f, _ := impl.Fixed(rom, "GAME", impl.CtFive)
	h, _ := impl.HeaderOf(f)
	m, ok := impl.MachineNew(f, h.Kind)
	m, run, steps := impl.RunFor(m, 10)
	if !ok || run != impl.RnHalt || steps != 3 || m.Cpu.A != 5 {
		t.Error(ok, run, steps, m.Cpu)
	}
}
