package tests

import (
	"fmt"
	"regexp"
	"runtime"
	"slices"
	"strconv"
	"strings"
	"sync"
	"testing"
	"time"

	"loop.example/g00460/impl"
)

// plantedRom has banks of one byte, but for what is put at places.
func plantedRom(banks int, of byte, pieces map[int]string) string {
	b := []byte(strings.Repeat(string([]byte{of}), banks*256))
	for at, piece := range pieces {
		copy(b[at:], piece)
	}
	return string(b)
}

// noCode is a byte at which no instruction stands.
const noCode = 0xd3

func modelRomOk(rom string) bool {
	return slices.Contains([]int{2, 3, 4, 5, 6, 7, 8, 9, 10, 11, 12, 13, 14, 15, 16}, len(rom)/256) && len(rom)%256 == 0
}

// modelInsAt is the template and the bytes of what stands at a place within its bank; "" when nothing does.
func modelInsAt(rom string, at int) (string, string) {
	rest := rom[at : at/256*256+256]
	template, length := plainTemplates[rest[0]], 1
	switch {
	case rest[0] == 203:
		length = 2
		if len(rest) > 1 {
			template = prefixedTemplates[rest[1]]
		}
	case strings.Contains(template, "n16"):
		length = 3
	case strings.Contains(template, "n8"), strings.Contains(template, "e8"):
		length = 2
	}
	if template == "" || length > len(rest) {
		return "", ""
	}
	return template, rest[:length]
}

func modelAddr(at int) int {
	if at < 256 {
		return at
	}
	return 256 + at%256
}

var (
	wordJump = regexp.MustCompile(`^(jp|call) (\w+,)?n16$`)
	byteJump = regexp.MustCompile(`^jr (\w+,)?e8$`)
	noBehind = regexp.MustCompile(`^(jp n16|jr e8|ret|reti|jp hl)$`)
)

// modelJump is the address to which an instruction jumps.
func modelJump(template, bytes string, at int) (int, bool) {
	switch {
	case byteJump.MatchString(template):
		return modelAddr(at) + 2 + int(int8(bytes[1])), true
	case wordJump.MatchString(template):
		return int(bytes[1]) + 256*int(bytes[2]), true
	case strings.HasPrefix(template, "rst $"):
		n, err := strconv.ParseInt(template[5:], 16, 64)
		return int(n), err == nil
	}
	return 0, false
}

func modelLeads(rom string, at int) (out []int) {
	template, bytes := modelInsAt(rom, at)
	if !noBehind.MatchString(template) {
		out = append(out, at+len(bytes))
	}
	to, jumps := modelJump(template, bytes, at)
	for place := range len(rom) {
		sees := place < 256 || place/256 == at/256
		if jumps && sees && modelAddr(place) == to {
			out = append(out, place)
		}
	}
	return out
}

func modelMarks(rom string, from []int64) string {
	if !modelRomOk(rom) || len(from) > 100 {
		return ""
	}
	marks := strings.Repeat("d", len(rom))
	for queue := slices.Clone(from); len(queue) > 0; queue = queue[1:] {
		if queue[0] < 0 || queue[0] >= int64(len(rom)) {
			continue
		}
		at := int(queue[0])
		_, bytes := modelInsAt(rom, at)
		end := at + len(bytes)
		if bytes == "" || strings.Trim(marks[at:end], "d") != "" {
			continue
		}
		marks = marks[:at] + "c.."[:len(bytes)] + marks[end:]
		for _, place := range modelLeads(rom, at) {
			queue = append(queue, int64(place))
		}
	}
	return marks
}

var spaceShape = regexp.MustCompile(`^\x00{4,}`)

func modelListed(rom string, bank int64) (lines []string, ok bool) {
	if !modelRomOk(rom) || bank < 0 || bank >= int64(len(rom)/256) {
		return nil, false
	}
	for at := int(bank) * 256; at < int(bank)*256+256; {
		line, length := modelLine(rom, at)
		lines = append(lines, line)
		at += length
	}
	return lines, true
}

func modelLine(rom string, at int) (string, int) {
	if space := spaceShape.FindString(rom[at : at/256*256+256]); space != "" {
		return fmt.Sprint("ds ", len(space)), len(space)
	}
	template, bytes := modelInsAt(rom, at)
	imm := 0
	for k := len(bytes) - 1; k > 0; k-- {
		imm = imm*256 + int(bytes[k])
	}
	text := template
	for _, hole := range []struct{ name, text string }{
		{"n16", fmt.Sprintf("$%04X", imm)},
		{"n8", fmt.Sprintf("$%02X", imm)},
		{"e8", fmt.Sprint(int8(imm))},
	} {
		text = strings.ReplaceAll(text, hole.name, hole.text)
	}
	if byteJump.MatchString(template) {
		to, _ := modelJump(template, bytes, at)
		text = strings.ReplaceAll(template, "e8", fmt.Sprintf("$%04X", to))
		if to < 0 || to > 65535 {
			text = ""
		}
	}
	if text == "" {
		return fmt.Sprintf("db $%02X", rom[at]), 1
	}
	return text, len(bytes)
}

func modelSectionLine(bank int64) string {
	if bank == 0 {
		return "section bank0,rom0,0"
	}
	return fmt.Sprintf("section bank%d,romx,256,%d", bank, bank)
}

func modelSource(rom string) (string, bool) {
	if !modelRomOk(rom) || len(rom) > 12*256 {
		return "", false
	}
	source := ""
	for bank := range int64(len(rom) / 256) {
		lines, _ := modelListed(rom, bank)
		source += modelSectionLine(bank) + "\n" + strings.Join(lines, "\n") + "\n"
	}
	if strings.Count(source, "\n") > 1500 || len(source) > 40000 {
		return "", false
	}
	return source, true
}

// wantMarks asks for what the model tells of a rom from these places, and for P13; it tells the marks.
func wantMarks(t *testing.T, rom string, from ...int64) string {
	t.Helper()
	given, all, before := guarded(from, 99)
	got := impl.MarksOf(rom, given)
	if want := modelMarks(rom, from); got != want {
		t.Fatalf("MarksOf(%s, %v) = %s\nwant %s", brief(rom), from, got, want)
	}
	if !slices.Equal(all, before) {
		t.Fatalf("MarksOf(%s, %v): an argument was written into", brief(rom), from)
	}
	wantMarkedIns(t, rom, got)
	return got
}

var marksShape = regexp.MustCompile(`^(d|c\.{0,2})*$`)

// P13: what is marked as an instruction is one, within its bank.
func wantMarkedIns(t *testing.T, rom, marks string) {
	t.Helper()
	if !marksShape.MatchString(marks) || marks != "" && len(marks) != len(rom) {
		t.Fatalf("%s: marks %s", brief(rom), marks)
	}
	for at := range marks {
		if marks[at] != 'c' {
			continue
		}
		end := at + 1
		for end < len(marks) && marks[end] == '.' {
			end++
		}
		i, length := impl.ReadIns(rom[at:at/256*256+256], 0)
		if length != int64(end-at) || !impl.InsOk(i) || impl.InsBytes(i) != rom[at:end] {
			t.Fatalf("%s: at %d no instruction of %d bytes stands", brief(rom), at, end-at)
		}
	}
}

// wantListed asks for the model's lines of a bank, and that they are that bank when they are assembled and linked; it tells the lines.
func wantListed(t *testing.T, rom string, bank int64) []string {
	t.Helper()
	want, right := modelListed(rom, bank)
	lines, ok := impl.Listed(rom, bank)
	if ok != right || !slices.Equal(lines, want) {
		t.Fatalf("Listed(%s, %d) = %q, %v, want %q, %v", brief(rom), bank, lines, ok, want, right)
	}
	if !ok {
		return nil
	}
	source := strings.Join(append([]string{modelSectionLine(bank)}, lines...), "\n") + "\n"
	built, _, code := impl.Linked(objects{rightObject(t, source)})
	if code != impl.LkOk || len(built) < int(bank+1)*256 || built[bank*256:][:256] != rom[bank*256:][:256] {
		t.Fatalf("%s: bank %d, linked, tells %d, and is another one", brief(rom), bank, code)
	}
	return lines
}

// wantSource asks for the model's source of a rom, and that it is that rom when it is assembled and linked; it tells whether there is one.
func wantSource(t *testing.T, rom string) bool {
	t.Helper()
	want, right := modelSource(rom)
	source, ok := impl.SourceOf(rom)
	if ok != right || source != want {
		t.Fatalf("SourceOf(%s) = %.200q of %d, %v, want %.200q of %d, %v", brief(rom), source, len(source), ok, want, len(want), right)
	}
	if !ok {
		return false
	}
	built, outs, code := impl.Linked(objects{rightObject(t, source)})
	if code != impl.LkOk || built != rom || len(outs) != 0 {
		t.Fatalf("%s: linked it tells %d, %v, and is another one", brief(rom), code, outs)
	}
	return true
}

// wantMarkedAt asks for the marks from a place on.
func wantMarkedAt(t *testing.T, marks string, at int, want string) {
	t.Helper()
	if got := marks[at:min(at+len(want), len(marks))]; got != want {
		t.Errorf("from %d on %s, want %s", at, got, want)
	}
}

func TestListingsByTheLengthOfTheRom(t *testing.T) {
	for _, rom := range wrongRoms() {
		if impl.MarksOf(rom, nil) != "" || impl.MarksOf(rom, []int64{0}) != "" || wantSource(t, rom) {
			t.Error(len(rom))
		}
		for _, bank := range []int64{-1, 0, 1, int64(len(rom)/256) - 1} {
			if wantListed(t, rom, bank) != nil {
				t.Error(len(rom), bank)
			}
		}
	}
	for banks := range 19 {
		rom := romOf(banks)
		right := banks >= 2 && banks <= 16
		if marks := wantMarks(t, rom, 0, 100, int64(len(rom))-1); (marks != "") != right || right && len(marks) != len(rom) {
			t.Error(banks, len(marks))
		}
		for _, bank := range append([]int64{-1, 0, 1, int64(banks) - 1, int64(banks), int64(banks) + 1, 15, 16, 17}, farNumbers...) {
			if (wantListed(t, rom, bank) != nil) != (right && bank >= 0 && bank < int64(banks)) {
				t.Error(banks, bank)
			}
		}
		for _, of := range []byte{0, 1} {
			if wantSource(t, plantedRom(banks, of, nil)) != (banks >= 2 && banks <= 12) {
				t.Error(banks, of)
			}
		}
	}
}

func TestHowManyPlacesAreGoneThrough(t *testing.T) {
	rom := plantedRom(2, 0xc9, nil)
	var from []int64
	for n := range int64(102) {
		want := strings.Repeat("c", int(n)) + strings.Repeat("d", int(512-n))
		if n > 100 {
			want = ""
		}
		if got := wantMarks(t, rom, from...); got != want {
			t.Errorf("%d places: %s", n, got)
		}
		from = append(from, n)
	}
	if impl.MarksOf(rom, make([]int64, 1000)) != "" || impl.MarksOf("", nil) != "" || impl.MarksOf("", make([]int64, 101)) != "" {
		t.Error("too many")
	}
	// That they are no places does not make them fewer.
	if impl.MarksOf(rom, slices.Repeat([]int64{-1}, 100)) != strings.Repeat("d", 512) || impl.MarksOf(rom, slices.Repeat([]int64{-1}, 101)) != "" {
		t.Error("places that are none")
	}
}

func TestPlacesThatThereAreNot(t *testing.T) {
	for _, banks := range []int{2, 3, 16} {
		rom := plantedRom(banks, 0xc9, nil)
		size := int64(banks * 256)
		blank := strings.Repeat("d", int(size))
		for _, place := range append([]int64{-1, -255, -256, size, size + 1, size + 256, 1 << 40}, farNumbers...) {
			if wantMarks(t, rom, place) != blank {
				t.Error(banks, place)
			}
			// What stands behind it is gone through all the same.
			wantMarkedAt(t, wantMarks(t, rom, place, 1, place, 3), 0, "dcdcd")
		}
		wantMarkedAt(t, wantMarks(t, rom, size-1), int(size)-2, "dc")
		wantMarkedAt(t, wantMarks(t, rom, 0), 0, "cd")
		wantMarkedAt(t, wantMarks(t, rom, 5, 5, 5), 4, "dcd")
	}
}

func TestInstructionsAtTheEndOfABank(t *testing.T) {
	for _, banks := range []int{2, 3} {
		for bank := range banks {
			for code := range 256 {
				for left := 1; left <= 4; left++ {
					at := bank*256 + 256 - left
					rom := plantedRom(banks, 0xc9, map[int]string{at: string([]byte{byte(code)})})
					marks := wantMarks(t, rom, int64(at))
					length := max(1, len(modelBytes(impl.Ins{Code: int64(code)})))
					if code == 203 {
						length = 2
					}
					right := length <= left && (code == 203 || impl.TemplateOf(int64(code), false) != "")
					if (marks[at] == 'c') != right {
						t.Errorf("%d, %d ahead of the end of bank %d: %s", code, left, bank, marks)
					}
				}
				// The last byte alone is listed as one that begins nothing, if it goes on.
				wantListed(t, plantedRom(banks, 4, map[int]string{bank*256 + 255: string([]byte{byte(code)})}), int64(bank))
				wantListed(t, plantedRom(banks, 4, map[int]string{bank*256 + 254: string([]byte{byte(code)})}), int64(bank))
			}
		}
	}
}

func TestWhatStandsBehindABank(t *testing.T) {
	// Behind the last byte of a bank the next one's first stands; behind the rom's nothing does.
	rom := plantedRom(3, noCode, map[int]string{254: "\x00\x00", 256: "\x04", 510: "\x3e\x05", 512: "\x05", 767: "\x00"})
	marks := wantMarks(t, rom, 254, 510, 767)
	wantMarkedAt(t, marks, 253, "dcccd")
	wantMarkedAt(t, marks, 509, "dc.cd")
	wantMarkedAt(t, marks, 766, "dc")
}

func TestInstructionsThatOverlap(t *testing.T) {
	// ld bc,$0404 has two inc b within itself.
	rom := plantedRom(2, noCode, map[int]string{16: "\x01\x04\x04"})
	for from, want := range map[string]string{
		"16": "dc..d", "17": "ddccd", "18": "dddcd", "16 17": "dc..d", "17 16": "ddccd", "18 16": "dddcd", "16 18": "dc..d",
		"18 17": "ddccd", "17 18": "ddccd", "16 16": "dc..d", "18 17 16": "ddccd", "15 16": "dc..d", "16 17 18": "dc..d",
	} {
		var places []int64
		for _, s := range strings.Fields(from) {
			n, _ := strconv.ParseInt(s, 10, 64)
			places = append(places, n)
		}
		if got := wantMarks(t, rom, places...)[15:20]; got != want {
			t.Errorf("%s: %s, want %s", from, got, want)
		}
	}
	// Only its last byte is marked already; only its middle one is.
	rom = plantedRom(2, noCode, map[int]string{16: "\x01\x04\xc9"})
	wantMarkedAt(t, wantMarks(t, rom, 18, 16), 15, "dddcd")
	rom = plantedRom(2, noCode, map[int]string{16: "\x01\xc9\xd3"})
	wantMarkedAt(t, wantMarks(t, rom, 17, 16), 15, "ddcdd")
	rom = plantedRom(2, noCode, map[int]string{16: "\xcb\xc9"})
	wantMarkedAt(t, wantMarks(t, rom, 17, 16), 15, "ddcd")
	wantMarkedAt(t, wantMarks(t, rom, 16, 17), 15, "dc.d")
}

func TestInWhichOrderPlacesAreGoneThrough(t *testing.T) {
	// What stands behind is gone through ahead of where it jumps: jr z to 3, at 2 ld bc,n16.
	rom := plantedRom(2, noCode, map[int]string{0: "\x28\x01\x01\x04\x04"})
	wantMarkedAt(t, wantMarks(t, rom, 0), 0, "c.c..d")
	// All that one leads to comes ahead of what these lead to: jr z to 4, nop, at 3 ld bc,n16.
	rom = plantedRom(2, noCode, map[int]string{0: "\x28\x02\x00\x01\x04\x04"})
	wantMarkedAt(t, wantMarks(t, rom, 0), 0, "c.cdccd")
	// All of from comes ahead of what it leads to: jp 20, and at 22 what 20 would go over.
	rom = plantedRom(2, noCode, map[int]string{0: "\xc3\x14\x00", 20: "\x01\x00\x04"})
	wantMarkedAt(t, wantMarks(t, rom, 0, 22), 19, "dddcd")
	wantMarkedAt(t, wantMarks(t, rom, 0), 19, "dc..d")
	// Of two the first one's is first: jp 20, jp 21.
	rom = plantedRom(2, noCode, map[int]string{0: "\xc3\x14\x00", 8: "\xc3\x15\x00", 20: "\x01\xc9\x04"})
	wantMarkedAt(t, wantMarks(t, rom, 0, 8), 19, "dc..d")
	wantMarkedAt(t, wantMarks(t, rom, 8, 0), 19, "ddcdd")
}

func TestWhatLeadsBehindItself(t *testing.T) {
	ends := []string{"jp n16", "jr e8", "ret", "reti", "jp hl"}
	met := 0
	for _, at := range []int{16, 256 + 16, 512 + 16} {
		for code := range 256 {
			template := plainTemplates[code]
			if template == "" || code == 203 {
				continue
			}
			bytes := modelBytes(impl.Ins{Code: int64(code), Imm: 0x80})
			rom := plantedRom(3, noCode, map[int]string{at: bytes + "\x04"})
			marks := wantMarks(t, rom, int64(at))
			end := slices.Contains(ends, template)
			if end {
				met++
			}
			if marks[at] != 'c' || (marks[at+len(bytes)] == 'c') == end {
				t.Errorf("%s at %d: %s", template, at, marks[at:at+4])
			}
		}
		for code := range 256 {
			rom := plantedRom(3, noCode, map[int]string{at: string([]byte{203, byte(code), 4})})
			wantMarkedAt(t, wantMarks(t, rom, int64(at)), at-1, "dc.cd")
		}
	}
	if met != 3*len(ends) {
		t.Error(met)
	}
}

func TestJumpsToAnAddress(t *testing.T) {
	codes := map[string][]byte{
		"behind":  {0xc2, 0xca, 0xd2, 0xda, 0xc4, 0xcc, 0xd4, 0xdc, 0xcd},
		"nothing": {0xc3},
		"no jump": {0x01, 0x08, 0xea, 0xfa, 0x31},
	}
	for kind, list := range codes {
		for _, code := range list {
			for _, bank := range []int{0, 1, 2, 3} {
				for _, addr := range []int{0, 1, 255, 256, 257, 511, 512, 513, 767, 768, 1023, 1024, 32768, 65279, 65280, 65535} {
					at := bank*256 + 100
					rom := plantedRom(4, 0xc9, map[int]string{at: string([]byte{code, byte(addr), byte(addr >> 8)})})
					want := map[int]byte{at: 'c', at + 1: '.', at + 2: '.'}
					if kind != "nothing" {
						want[at+3] = 'c'
					}
					if kind != "no jump" && addr < 256 {
						want[addr] = 'c'
					}
					if kind != "no jump" && addr >= 256 && addr < 512 && bank > 0 {
						want[bank*256+addr-256] = 'c'
					}
					wantMarksAt(t, wantMarks(t, rom, int64(at)), want)
				}
			}
		}
	}
}

// wantMarksAt asks for marks at places, and for d at all others.
func wantMarksAt(t *testing.T, marks string, want map[int]byte) {
	t.Helper()
	b := []byte(strings.Repeat("d", len(marks)))
	for at, mark := range want {
		b[at] = mark
	}
	if marks != string(b) {
		t.Errorf("%s, want %s", marks, b)
	}
}

func TestRstLeadsToItsPlace(t *testing.T) {
	for y := range 8 {
		for _, at := range []int{100, 356, 612} {
			rom := plantedRom(3, 0xc9, map[int]string{at: string([]byte{byte(0xc7 + 8*y)})})
			wantMarksAt(t, wantMarks(t, rom, int64(at)), map[int]byte{at: 'c', at + 1: 'c', 8 * y: 'c'})
		}
	}
}

func TestWhereJrLeads(t *testing.T) {
	for _, code := range []byte{0x18, 0x20, 0x28, 0x30, 0x38} {
		for _, bank := range []int{0, 1, 2} {
			for _, at := range []int{0, 1, 2, 100, 125, 126, 127, 128, 129, 253, 254} {
				for offset := -128; offset <= 127; offset++ {
					place := bank*256 + at
					rom := plantedRom(3, 0xc9, map[int]string{place: string([]byte{code, byte(offset)})})
					want := map[int]byte{}
					if code != 0x18 && place+2 < len(rom) {
						want[place+2] = 'c'
					}
					to := at + 2 + offset
					if bank > 0 {
						to += 256
					}
					if to >= 0 && to < 256 {
						want[to] = 'c'
					}
					if bank > 0 && to >= 256 && to < 512 {
						want[bank*256+to-256] = 'c'
					}
					// What it leads to in itself is passed over.
					want[place], want[place+1] = 'c', '.'
					wantMarksAt(t, impl.MarksOf(rom, []int64{int64(place)}), want)
				}
			}
		}
	}
}

func TestWhatLeadsToItselfAndToEachOther(t *testing.T) {
	for _, of := range []struct{ bytes, want string }{
		{"\x18\xfe", "c.d"}, {"\x20\xfe", "c.d"}, {"\xc3\x10\x00", "c..d"}, {"\xca\x10\x00", "c..d"}, {"\xcd\x10\x00", "c..d"},
		{"\x18\x00\x18\xfc", "c.c.d"}, {"\x28\x00\x28\xfc", "c.c.d"}, {"\xc3\x13\x00\xc3\x10\x00", "c..c..d"}, {"\xd7", "cd"}, {"\xc9", "cd"}, {"\xe9", "cd"},
		{"\x18\xff", "c.d"}, {"\x20\xff", "c.d"}, {"\xc3\x11\x00", "c..d"},
	} {
		rom := plantedRom(2, noCode, map[int]string{16: of.bytes})
		wantMarkedAt(t, wantMarks(t, rom, 16), 15, "d"+of.want)
		wantMarkedAt(t, wantMarks(t, rom, 16, 16), 15, "d"+of.want)
	}
	// Two in two banks.
	rom := plantedRom(3, noCode, map[int]string{16: "\xc3\x20\x00", 32: "\xc2\x10\x00", 520: "\xc3\x10\x01", 528: "\xc2\x08\x01", 531: "\xcc\x10\x00"})
	marks := wantMarks(t, rom, 520)
	wantMarkedAt(t, marks, 519, "dc..dddddc..c..d")
	wantMarkedAt(t, marks, 15, "dc..d")
	wantMarkedAt(t, marks, 31, "dc..d")
}

func TestMarksOfAWholeRom(t *testing.T) {
	for _, banks := range []int{2, 16} {
		// One instruction leads to the next one through all banks, and each of these jumps to it again.
		if marks := wantMarks(t, plantedRom(banks, 0, nil), 0); marks != strings.Repeat("c", banks*256) {
			t.Error(marks)
		}
		if marks := impl.MarksOf(plantedRom(banks, 0xc7, nil), []int64{0}); marks != strings.Repeat("c", banks*256) {
			t.Error(marks)
		}
		if marks := wantMarks(t, plantedRom(banks, noCode, nil), 0, 1, 2); marks != strings.Repeat("d", banks*256) {
			t.Error(marks)
		}
	}
}

func TestListedNoughts(t *testing.T) {
	blank := plantedRom(2, 0, nil)
	for bank := range int64(2) {
		if lines := wantListed(t, blank, bank); !slices.Equal(lines, []string{"ds 256"}) {
			t.Error(lines)
		}
		for n := range 257 {
			for _, at := range []int{0, 1, 100, 256 - n} {
				if at+n > 256 {
					continue
				}
				rom := plantedRom(2, 4, map[int]string{int(bank)*256 + at: strings.Repeat("\x00", n)})
				want := slices.Repeat([]string{"inc b"}, at)
				if n < 4 {
					want = append(want, slices.Repeat([]string{"nop"}, n)...)
				} else {
					want = append(want, fmt.Sprint("ds ", n))
				}
				want = append(want, slices.Repeat([]string{"inc b"}, 256-at-n)...)
				if lines := wantListed(t, rom, bank); !slices.Equal(lines, want) {
					t.Errorf("%d noughts at %d: %q", n, at, lines)
				}
			}
		}
	}
}

// listedAt has the lines of a bank in which some bytes stand at a place, without the inc b around them.
func listedAt(t *testing.T, bank, at int, bytes string) string {
	t.Helper()
	rom := plantedRom(3, 4, map[int]string{bank*256 + at: bytes})
	lines := wantListed(t, rom, int64(bank))
	wantSource(t, rom)
	return strings.Join(slices.DeleteFunc(slices.Clone(lines), func(s string) bool { return s == "inc b" }), "|")
}

func TestListedBytes(t *testing.T) {
	for bytes, want := range map[string]string{
		"\x01\x00\x00\x00\x00":             "ld bc,$0000|nop|nop",
		"\x01\x00\x00\x00\x00\x00":         "ld bc,$0000|nop|nop|nop",
		"\x01\x00\x00\x00\x00\x00\x00":     "ld bc,$0000|ds 4",
		"\x3e\x00\x00\x00\x00":             "ld a,$00|nop|nop|nop",
		"\x3e\x00\x00\x00\x00\x00":         "ld a,$00|ds 4",
		"\x01\x34\x00\x00\x00\x00":         "ld bc,$0034|nop|nop|nop",
		"\xcb\x00\x00\x00\x00":             "rlc b|nop|nop|nop",
		"\xd3\x00\x00\x00\x00\xd3":         "db $D3|ds 4|db $D3",
		"\xd3\xdb\xdd\xe3\xe4\xeb\xec\xed": "db $D3|db $DB|db $DD|db $E3|db $E4|db $EB|db $EC|db $ED",
		"\xf4\xfc\xfd":                     "db $F4|db $FC|db $FD",
		"\x10\x00\x10\xff":                 "stop $00|stop $FF",
		"\x08\x34\x12":                     "ld [$1234],sp",
		"\xe8\xff\xf8\x80\xf8\x7f":         "add sp,-1|ld hl,sp+-128|ld hl,sp+127",
		"\xe0\x05\xf0\xff\xe2\xf2":         "ldh [$05],a|ldh a,[$FF]|ldh [c],a|ldh a,[c]",
		"\xea\xcd\xab\xfa\x00\x00":         "ld [$ABCD],a|ld a,[$0000]",
		"\xcb\x7e\xcb\xcb\xcb\x37":         "bit 7,[hl]|set 1,e|swap a",
		"\xc7\xff\xe9\xd9\x76":             "rst $00|rst $38|jp hl|reti|halt",
		"\xc3\xff\xff\xdc\x00\x01":         "jp $FFFF|call c,$0100",
		"\x2a\x3a\x22\x32\x0a\x02":         "ld a,[hl+]|ld a,[hl-]|ld [hl+],a|ld [hl-],a|ld a,[bc]|ld [bc],a",
	} {
		for bank := range 3 {
			for _, at := range []int{0, 50, 256 - len(bytes)} {
				if got := listedAt(t, bank, at, bytes); got != want {
					t.Errorf("%q at %d of bank %d: %s, want %s", bytes, at, bank, got, want)
				}
			}
		}
	}
	// What goes over the end of its bank is listed byte by byte.
	for bytes, want := range map[string]string{"\x01": "db $01", "\x01\x02": "db $01|ld [bc],a", "\xcb": "db $CB", "\x18": "db $18", "\x3e": "db $3E", "\xc3\xc3": "db $C3|db $C3", "\xc3\x18": "db $C3|db $18", "\xc3\x00": "db $C3|nop"} {
		for bank := range 3 {
			if got := listedAt(t, bank, 256-len(bytes), bytes); got != want {
				t.Errorf("%q: %s, want %s", bytes, got, want)
			}
		}
	}
}

func TestListedJr(t *testing.T) {
	for code, text := range map[byte]string{0x18: "jr ", 0x20: "jr nz,", 0x28: "jr z,", 0x30: "jr nc,", 0x38: "jr c,"} {
		for _, of := range []struct {
			bank, at int
			offset   int
			want     string
		}{
			{0, 0, -2, "$0000"}, {0, 0, 0, "$0002"}, {0, 0, 127, "$0081"}, {0, 0, -1, "$0001"}, {0, 254, 127, "$017F"}, {0, 254, 0, "$0100"}, {0, 254, -1, "$00FF"}, {0, 254, -128, "$0080"},
			{0, 126, -128, "$0000"}, {1, 0, -128, "$0082"}, {1, 0, -2, "$0100"}, {1, 0, -3, "$00FF"}, {1, 254, 127, "$027F"}, {1, 254, 0, "$0200"}, {1, 254, -128, "$0180"}, {2, 0, -128, "$0082"}, {2, 254, 127, "$027F"}, {2, 100, 10, "$0170"},
		} {
			if got := listedAt(t, of.bank, of.at, string([]byte{code, byte(of.offset)})); got != text+of.want {
				t.Errorf("%s%d at %d of bank %d: %s, want %s", text, of.offset, of.at, of.bank, got, of.want)
			}
		}
		// Below 0 it leads to no word; its second byte is listed as what it is.
		for _, of := range []struct {
			at, offset int
			second     string
		}{{0, -3, "db $FD"}, {0, -128, "add a,b"}, {1, -4, "db $FC"}, {125, -128, "add a,b"}, {100, -103, "sbc a,c"}} {
			want := fmt.Sprintf("db $%02X|", code) + of.second
			if got := listedAt(t, 0, of.at, string([]byte{code, byte(of.offset)})); got != want {
				t.Errorf("%d at %d: %s, want %s", of.offset, of.at, got, want)
			}
		}
		for bank := range 3 {
			if got := listedAt(t, bank, 255, string([]byte{code})); got != fmt.Sprintf("db $%02X", code) {
				t.Errorf("%d at the last byte: %s", code, got)
			}
		}
	}
}

// P13: each instruction, wherever it stands, comes back from its line.
func TestEachInstructionIsListed(t *testing.T) {
	for bank := range int64(2) {
		var bytes strings.Builder
		flush := func() {
			wantListed(t, plantedRom(2, noCode, map[int]string{int(bank) * 256: bytes.String()}), bank)
			bytes.Reset()
		}
		for _, i := range allRightIns() {
			if bytes.Len()+3 > 256 {
				flush()
			}
			bytes.WriteString(modelBytes(i))
		}
		flush()
	}
}

// linesRom has 12 banks, whose source has so many lines.
func linesRom(lines int) string {
	pieces := map[int]string{}
	lines -= 12
	for bank := range 12 {
		many := lines/12 + set1(bank < lines%12)
		// All but the last line have one byte, and that one all others.
		pieces[bank*256] = strings.Repeat("\x04", many-1)
	}
	return plantedRom(12, 0, pieces)
}

func set1(is bool) int { return int(set(1, is)) }

func TestSourcesByTheirLines(t *testing.T) {
	for _, lines := range []int{24, 25, 100, 1498, 1499, 1500, 1501, 1502, 1600, 3000} {
		rom := linesRom(lines)
		total := 0
		for bank := range int64(12) {
			list, _ := impl.Listed(rom, bank)
			total += 1 + len(list)
		}
		if total != lines || wantSource(t, rom) != (lines <= 1500) {
			t.Error(lines, total)
		}
	}
	// The longest lines are not enough for MaxSource bytes: other bounds are met ahead of that one.
	if rom := strings.Repeat("\xdc\x34\x12", 85); !wantSource(t, strings.Repeat(rom+"\x04", 12)) {
		t.Error("long lines")
	}
	for _, banks := range []int{5, 6, 12} {
		// A line a byte: 5 banks have not too many, 6 have.
		if wantSource(t, plantedRom(banks, 0x3f, nil)) != (banks <= 5) {
			t.Error(banks)
		}
	}
}

func TestSourcesOfBanks(t *testing.T) {
	want := "section bank0,rom0,0\nds 256\n"
	for banks := 1; banks <= 13; banks++ {
		source, ok := impl.SourceOf(strings.Repeat("\x00", banks*256))
		if right := banks > 1 && banks < 13; ok != right || right && source != want {
			t.Errorf("%d banks: %q", banks, source)
		}
		want += fmt.Sprintf("section bank%d,romx,256,%d\nds 256\n", banks, banks)
	}
}

// someRom has code, data, and noughts in runs.
func someRom(d *dice, banks int) string {
	rom := ""
	for len(rom) < banks*256 {
		switch d.below(6) {
		case 0:
			rom += bytesOf(d, d.below(20))
		case 1:
			rom += strings.Repeat("\x00", d.below(9))
		case 2:
			rom += strings.Repeat(string([]byte{byte(d.below(256))}), d.below(12))
		case 3:
			rom += string([]byte{byte(0x18 + 8*d.below(5)), byte(d.below(256))})
		case 4:
			word := d.below(512)
			rom += someOf(d, "\xc3", "\xca", "\xcd", "\xdc", "\x01", "\xea") + string([]byte{byte(word), byte(word >> 8)})
		case 5:
			rom += someOf(d, "\xc9", "\xd9", "\xe9", "\xc8", "\xff", "\xc7", "\xcb", "\x04", "\xd3")
		}
	}
	return rom[:banks*256]
}

// P13, against the model: what is marked is an instruction.
func TestMarksAgainstTheModel(t *testing.T) {
	d := dice(131)
	codes := 0
	for range 1500 {
		rom := someRom(&d, 2+d.below(4))
		var from []int64
		for range d.below(5) {
			from = append(from, int64(d.below(len(rom)+10)-5))
		}
		codes += strings.Count(wantMarks(t, rom, from...), "c")
	}
	for range 20 {
		rom := someRom(&d, 2+d.below(15))
		var from []int64
		for range 90 + d.below(14) {
			from = append(from, int64(d.below(len(rom)+10)-5))
		}
		codes += strings.Count(wantMarks(t, rom, from...), "c")
	}
	if codes < 50000 {
		t.Error("too few instructions", codes)
	}
}

// P13, against the model: a bank, and a rom, whose source is told, assembled and linked, is that bank, and that rom.
func TestListedRomsAreBuiltAgain(t *testing.T) {
	d := dice(132)
	told := 0
	for k := range 60 {
		rom := someRom(&d, 2+d.below(12))
		if k%6 == 0 {
			rom = bytesOf(&d, len(rom))
		}
		if wantSource(t, rom) {
			told++
		}
		wantListed(t, rom, int64(d.below(len(rom)/256+2)-1))
	}
	if told < 30 || told > 58 {
		t.Error("too few of one kind", told)
	}
	for range 200 {
		rom := someRom(&d, 2)
		wantListed(t, rom, int64(d.below(2)))
	}
}

// P19: the same arguments give the same answers, also at the same time, and nothing goes on behind a call.
func TestListingsAtTheSameTime(t *testing.T) {
	d := dice(133)
	rom := someRom(&d, 16)
	from := []int64{0, 256, 512, 1000, -1, 4095, 4096}
	want := modelMarks(rom, from)
	before := runtime.NumGoroutine()
	var all sync.WaitGroup
	wrong := make([]int, 8)
	for k := range wrong {
		all.Go(func() {
			for range 50 {
				wrong[k] += set1(impl.MarksOf(rom, from) != want)
				wrong[k] += set1(impl.MarksOf(rom, nil) != strings.Repeat("d", 4096))
				wrong[k] += set1(impl.MarksOf("x", from) != "")
			}
		})
	}
	all.Wait()
	if slices.Max(wrong) > 0 {
		t.Error(wrong)
	}
	for k := 0; runtime.NumGoroutine() > before; k++ {
		if k == 200 {
			t.Fatal("goroutines are left", runtime.NumGoroutine(), before)
		}
		time.Sleep(time.Millisecond)
	}
}

func TestListingsAreNewMemory(t *testing.T) {
	rom := romOf(3)
	for bank := range int64(3) {
		first, _ := impl.Listed(rom, bank)
		other, _ := impl.Listed(rom, bank)
		for k := range first {
			first[k] = "other"
		}
		_ = append(first[:1], "more")
		if again, _ := impl.Listed(rom, bank); !slices.Equal(again, other) || slices.Contains(other, "other") {
			t.Error("lists are shared", bank)
		}
	}
}

// P11, P13: what runs, listed and built again, runs as it did.
func TestWhatIsListedRuns(t *testing.T) {
	first, _, _ := impl.Linked(objects{linkedSource(t, "section a,rom0,0|ld b,3|loop: inc a|dec b|jr nz,loop|call far|halt|stay: jr stay|section x,romx|far: ld hl,$C000|ld [hl],a|ret")})
	source, ok := impl.SourceOf(first)
	rom, _, code := impl.Linked(objects{rightObject(t, source)})
	m, right := impl.MachineNew(rom, impl.CtFive)
	m, run, _ := impl.RunFor(m, 100)
	if !ok || code != impl.LkOk || rom != first || !right || run != impl.RnHalt || m.Work[0] != 3 {
		t.Error(ok, code, right, run, m.Cpu)
	}
	marks := wantMarks(t, rom, 0)
	wantMarkedAt(t, marks, 0, "c.ccc.c..cc.d")
	// The first bank's address 256 is no place of its own: nobody says which bank is there.
	wantMarkedAt(t, marks, 256, "dddd")
}
