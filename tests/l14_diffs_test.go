package tests

import (
	"bytes"
	"encoding/binary"
	"regexp"
	"strings"
	"testing"

	"loop.example/g00460/impl"
)

// highFirst is n in so many bytes, the highest first.
func highFirst(n, size int) string {
	return string(binary.BigEndian.AppendUint32(nil, uint32(n))[4-size:])
}

func pieceText(at int, data string) string { return highFirst(at, 3) + highFirst(len(data), 2) + data }

// diffText is a diff to so many bytes.
func diffText(all int, pieces ...string) string {
	return "DIFF" + strings.Join(pieces, "") + "END" + highFirst(all, 3)
}

var apartShape = regexp.MustCompile(`x+`)

func modelDiff(a, b string) (string, bool) {
	if len(a) > 20000 || len(b) > 20000 {
		return "", false
	}
	marks := []byte(strings.Repeat("x", len(b)))
	for k := range min(len(a), len(b)) {
		if a[k] == b[k] {
			marks[k] = '-'
		}
	}
	var pieces []string
	for _, at := range apartShape.FindAllIndex(marks, -1) {
		pieces = append(pieces, pieceText(at[0], b[at[0]:at[1]]))
	}
	return diffText(len(b), pieces...), true
}

// modelApplied reads from the beginning on, up to the first END in a piece's place: as a place it would be behind all.
func modelApplied(a, d string) (string, bool) {
	in := bytes.NewBufferString(d)
	if len(a) > 20000 || len(d) > 80000 || string(in.Next(4)) != "DIFF" {
		return "", false
	}
	type piece struct {
		at   int
		data string
	}
	var pieces []piece
	for in.Len() > 0 {
		place := in.Next(3)
		if string(place) == "END" {
			break
		}
		count := in.Next(2)
		if len(place) < 3 || len(count) < 2 {
			return "", false
		}
		size := int(binary.BigEndian.Uint16(count))
		p := piece{int(place[0])*65536 + int(place[1])*256 + int(place[2]), string(in.Next(size))}
		if len(p.data) < size || size == 0 {
			return "", false
		}
		pieces = append(pieces, p)
	}
	last := in.Next(3)
	if len(last) < 3 || in.Len() > 0 {
		return "", false
	}
	all := int(last[0])*65536 + int(last[1])*256 + int(last[2])
	if all > 20000 {
		return "", false
	}
	out := (a + strings.Repeat("\x00", 20000))[:all]
	var built strings.Builder
	for _, p := range pieces {
		if p.at < built.Len() || p.at+len(p.data) > all {
			return "", false
		}
		built.WriteString(out[built.Len():p.at] + p.data)
	}
	return built.String() + out[built.Len():], true
}

// wantDiff asks for what the model tells, twice, and for P14; it tells the diff.
func wantDiff(t *testing.T, a, b string) string {
	t.Helper()
	wasA, wasB := strings.Clone(a), strings.Clone(b)
	want, ok := modelDiff(a, b)
	for range 2 {
		if d, is := impl.DiffOf(a, b); is != ok || d != want {
			t.Fatalf("DiffOf(%s, %s) = %s, %v, want %s, %v", brief(a), brief(b), brief(d), is, brief(want), ok)
		}
	}
	if ok {
		if s, is := impl.Applied(a, want); !is || s != b {
			t.Fatalf("%s, put into %s, is %s, %v, want %s", brief(want), brief(a), brief(s), is, brief(b))
		}
	}
	if a != wasA || b != wasB {
		t.Fatalf("DiffOf(%s, %s): an argument was written into", brief(a), brief(b))
	}
	return want
}

// wantApplied asks for what the model tells, twice; it tells that.
func wantApplied(t *testing.T, a, d string) (string, bool) {
	t.Helper()
	wasA, wasD := strings.Clone(a), strings.Clone(d)
	want, ok := modelApplied(a, d)
	for range 2 {
		if s, is := impl.Applied(a, d); is != ok || s != want {
			t.Fatalf("Applied(%s, %s of %d) = %s of %d, %v, want %s of %d, %v", brief(a), brief(d), len(d), brief(s), len(s), is, brief(want), len(want), ok)
		}
	}
	if a != wasA || d != wasD {
		t.Fatalf("Applied(%s, %s): an argument was written into", brief(a), brief(d))
	}
	return want, ok
}

func wantPut(t *testing.T, a, d, want string) {
	t.Helper()
	if s, ok := wantApplied(t, a, d); !ok || s != want {
		t.Errorf("Applied(%s, %s) = %s, %v, want %s", brief(a), brief(d), brief(s), ok, brief(want))
	}
}

func wantNotPut(t *testing.T, a string, list ...string) {
	t.Helper()
	for _, d := range list {
		if s, ok := wantApplied(t, a, d); ok || s != "" {
			t.Errorf("Applied(%s, %s) = %s, %v, want none", brief(a), brief(d), brief(s), ok)
		}
	}
}

func TestNumbersOfDiffs(t *testing.T) {
	if impl.MaxDiff != 20000 {
		t.Error("another number")
	}
}

func TestWhatDiffs(t *testing.T) {
	for _, c := range []struct{ a, b, want string }{
		{"", "", "DIFFEND\x00\x00\x00"},
		{"abc", "abc", "DIFFEND\x00\x00\x03"},
		{"\x00", "\x00", "DIFFEND\x00\x00\x01"},
		{"", "a", "DIFF\x00\x00\x00\x00\x01aEND\x00\x00\x01"},
		{"", "\x00", "DIFF\x00\x00\x00\x00\x01\x00END\x00\x00\x01"},
		{"", "abc", "DIFF\x00\x00\x00\x00\x03abcEND\x00\x00\x03"},
		{"a", "", "DIFFEND\x00\x00\x00"},
		{"abc", "", "DIFFEND\x00\x00\x00"},
		{"abc", "a", "DIFFEND\x00\x00\x01"},
		{"abc", "ab", "DIFFEND\x00\x00\x02"},
		{"abc", "xb", "DIFF\x00\x00\x00\x00\x01xEND\x00\x00\x02"},
		{"abc", "ax", "DIFF\x00\x00\x01\x00\x01xEND\x00\x00\x02"},
		{"abc", "abcd", "DIFF\x00\x00\x03\x00\x01dEND\x00\x00\x04"},
		{"abc", "abc\x00", "DIFF\x00\x00\x03\x00\x01\x00END\x00\x00\x04"},
		{"abc", "abcdefgh", "DIFF\x00\x00\x03\x00\x05defghEND\x00\x00\x08"},
		{"abcdef", "XYcdef", "DIFF\x00\x00\x00\x00\x02XYEND\x00\x00\x06"},
		{"abcdef", "abXYef", "DIFF\x00\x00\x02\x00\x02XYEND\x00\x00\x06"},
		{"abcdef", "abcdXY", "DIFF\x00\x00\x04\x00\x02XYEND\x00\x00\x06"},
		{"abcdef", "ABCDEF", "DIFF\x00\x00\x00\x00\x06ABCDEFEND\x00\x00\x06"},
		{"abcdef", "aXcYef", "DIFF\x00\x00\x01\x00\x01X\x00\x00\x03\x00\x01YEND\x00\x00\x06"},
		{"abcdef", "XbYdZf", "DIFF\x00\x00\x00\x00\x01X\x00\x00\x02\x00\x01Y\x00\x00\x04\x00\x01ZEND\x00\x00\x06"},
		{"abcdef", "abcdXYZ!", "DIFF\x00\x00\x04\x00\x04XYZ!END\x00\x00\x08"},
		{"abcdef", "abcdXfZ!", "DIFF\x00\x00\x04\x00\x01X\x00\x00\x06\x00\x02Z!END\x00\x00\x08"},
		{"abcdef", "bcdef", "DIFF\x00\x00\x00\x00\x05bcdefEND\x00\x00\x05"},
		{"END", "DIFFEND", "DIFF\x00\x00\x00\x00\x07DIFFENDEND\x00\x00\x07"},
		{"xxx", "END", "DIFF\x00\x00\x00\x00\x03ENDEND\x00\x00\x03"},
	} {
		if d := wantDiff(t, c.a, c.b); d != c.want {
			t.Errorf("DiffOf(%q, %q) = %q, want %q", c.a, c.b, d, c.want)
		}
		wantDiff(t, c.b, c.a)
	}
}

// Places and numbers of bytes pass the lowest byte.
func TestLongDiffs(t *testing.T) {
	for _, n := range []int{1, 2, 254, 255, 256, 257, 511, 512, 513, 19999, 20000} {
		a, b := strings.Repeat("a", n), strings.Repeat("b", n)
		if d := wantDiff(t, a, b); d != diffText(n, pieceText(0, b)) {
			t.Error("all differ", n, brief(d))
		}
		if d := wantDiff(t, "", b); d != diffText(n, pieceText(0, b)) {
			t.Error("none there", n, brief(d))
		}
		if d := wantDiff(t, b, b); d != diffText(n) {
			t.Error("none differs", n, brief(d))
		}
		if d := wantDiff(t, a, ""); d != diffText(0) {
			t.Error("nothing", n, brief(d))
		}
		if n > 513 {
			continue
		}
		for _, ahead := range []int{1, 255, 256, 257, 5000, 18000} {
			same := strings.Repeat("s", ahead)
			if d := wantDiff(t, same+a+"s", same+b+"s"); d != diffText(ahead+n+1, pieceText(ahead, b)) {
				t.Error("within", n, ahead, brief(d))
			}
			if d := wantDiff(t, same+a[:n/2], same+b); d != diffText(ahead+n, pieceText(ahead, b)) {
				t.Error("goes on behind", n, ahead, brief(d))
			}
			if d := wantDiff(t, same+a+"s"+a, same+b+"s"+b); d != diffText(ahead+2*n+1, pieceText(ahead, b), pieceText(ahead+n+1, b)) {
				t.Error("two", n, ahead, brief(d))
			}
		}
	}
}

func TestBoundsOfDiffs(t *testing.T) {
	for _, n := range []int{19999, 20000, 20001, 20002, 40000, 65536, 100000} {
		long := strings.Repeat("ab", 50000)[:n]
		for _, other := range []string{"", "a", "b", long, long[1:], strings.Repeat("x", 20000), strings.Repeat("a", 20000), strings.Repeat("x", 20001)} {
			right := n <= 20000 && len(other) <= 20000
			if d := wantDiff(t, long, other); (d != "") != right {
				t.Error(n, len(other), brief(d))
			}
			if d := wantDiff(t, other, long); (d != "") != right {
				t.Error(len(other), n, brief(d))
			}
		}
	}
	// As many pieces as there can be.
	for _, b := range []string{strings.Repeat("xa", 10000), strings.Repeat("ax", 10000)} {
		if d := wantDiff(t, strings.Repeat("a", 20000), b); len(d) != 60010 {
			t.Error(len(d))
		}
	}
}

func TestDiffPutIntoOthers(t *testing.T) {
	d := wantDiff(t, "abcdef", "abXXefgh")
	wantPut(t, "abcdef", d, "abXXefgh")
	wantPut(t, "abXXefgh", d, "abXXefgh")
	wantPut(t, "ABCDEFGH", d, "ABXXEFgh")
	wantPut(t, "ABCDEFGHIJKL", d, "ABXXEFgh")
	wantPut(t, "AB", d, "ABXX\x00\x00gh")
	wantPut(t, "A", d, "A\x00XX\x00\x00gh")
	wantPut(t, "", d, "\x00\x00XX\x00\x00gh")
	wantPut(t, strings.Repeat("z", 20000), d, "zzXXzzgh")
	wantNotPut(t, strings.Repeat("z", 20001), d, diffText(0), diffText(3), "")
	wantNotPut(t, strings.Repeat("z", 100000), d)
}

func TestDiffsWithoutPieces(t *testing.T) {
	wantPut(t, "", "DIFFEND\x00\x00\x00", "")
	wantPut(t, "abc", "DIFFEND\x00\x00\x00", "")
	wantPut(t, "abc", "DIFFEND\x00\x00\x01", "a")
	wantPut(t, "abc", "DIFFEND\x00\x00\x03", "abc")
	wantPut(t, "abc", "DIFFEND\x00\x00\x05", "abc\x00\x00")
	wantPut(t, "", "DIFFEND\x00\x00\x05", "\x00\x00\x00\x00\x00")
	wantPut(t, "abc", "DIFFEND\x00\x01\x00", "abc"+strings.Repeat("\x00", 253))
	long := strings.Repeat("l", 20000)
	wantPut(t, long, diffText(20000), long)
	wantPut(t, long, diffText(19999), long[1:])
	wantPut(t, "", diffText(20000), strings.Repeat("\x00", 20000))
	for _, all := range []int{20001, 20002, 32768, 65535, 65536, 65536 + 3, 1 << 17, 1 << 23, 1<<24 - 1} {
		wantNotPut(t, "abc", diffText(all), diffText(all, pieceText(0, "x")))
		wantNotPut(t, long, diffText(all), diffText(all, pieceText(0, long)))
	}
}

func TestDiffsOfAnotherForm(t *testing.T) {
	right := diffText(5, pieceText(1, "xy"), pieceText(4, "z"))
	wantPut(t, "abcde", right, "axydz")
	for n := range len(right) {
		wantNotPut(t, "abcde", right[:n], right[n+1:], right[:n]+right[n+1:])
	}
	wantNotPut(t, "abcde", "", "DIFF", "END", "DIFFEND", "DIFFEND\x00", "DIFFEND\x00\x00", "DIFEND\x00\x00\x00", "DIFFEN\x00\x00\x00", "DIFF\x00\x00\x00", "DIFFND\x00\x00\x00\x00")
	wantNotPut(t, "abcde", "DIFXEND\x00\x00\x02", "XIFFEND\x00\x00\x02", "diffEND\x00\x00\x02", "DIFFend\x00\x00\x02", "DIFFENX\x00\x00\x02", "DIFFXND\x00\x00\x02", "ENDDIFF\x00\x00\x02", "DIFFDIFFEND\x00\x00\x02")
	wantNotPut(t, "abcde", " "+right, right+" ", right+"\x00", right+right, right+"END", right+"END\x00\x00\x05", "DIFFEND\x00\x00\x05\x00", "DIFFEND\x00\x00\x05END\x00\x00\x05")
	wantNotPut(t, "abcde", "DIFF"+right, "DIFFEND\x00\x00\x00"+right, strings.Repeat("\x00", 10), strings.Repeat("\xff", 100))
}

func TestHalfPieces(t *testing.T) {
	whole := pieceText(1, "xyz")
	for n := 1; n < len(whole); n++ {
		wantNotPut(t, "abcde", diffText(5, whole[:n]), diffText(10, whole[:n]), diffText(20000, whole[:n]), diffText(5, pieceText(0, "a"), whole[:n]), diffText(5, whole[:n], pieceText(4, "a")))
	}
	// A piece that takes some of the end, or all of it.
	for _, count := range []int{2, 3, 4, 5, 6, 7, 8, 9, 256, 257, 65535} {
		wantNotPut(t, "abcde", diffText(5, "\x00\x00\x00"+highFirst(count, 2)+"x"))
		wantNotPut(t, "abcde", diffText(20000, "\x00\x00\x00"+highFirst(count, 2)+"x"))
	}
	wantNotPut(t, "", "DIFF\x00\x00\x00\x00\x06END\x00\x00\x06")
}

func TestPiecesAndTheirPlaces(t *testing.T) {
	a := "abcdefgh"
	wantNotPut(t, a, diffText(8, pieceText(0, "")), diffText(8, pieceText(3, "")), diffText(8, pieceText(8, "")), diffText(0, pieceText(0, "")), diffText(8, pieceText(2, "x"), pieceText(5, "")), diffText(8, pieceText(2, ""), pieceText(5, "x")))
	wantNotPut(t, a, diffText(8, pieceText(2, "xyz"), pieceText(4, "w")), diffText(8, pieceText(2, "xyz"), pieceText(2, "w")), diffText(8, pieceText(2, "xyz"), pieceText(1, "w")), diffText(8, pieceText(2, "xyz"), pieceText(0, "w")), diffText(8, pieceText(2, "xyz"), pieceText(2, "xyz")))
	wantNotPut(t, a, diffText(8, pieceText(1, "x"), pieceText(5, "yz"), pieceText(3, "w")), diffText(8, pieceText(1, "x"), pieceText(5, "yz"), pieceText(6, "w")))
	wantPut(t, a, diffText(8, pieceText(2, "xyz"), pieceText(5, "w")), "abxyzwgh")
	wantPut(t, a, diffText(8, pieceText(2, "xyz"), pieceText(6, "w")), "abxyzfwh")
	wantPut(t, a, diffText(8, pieceText(0, "x"), pieceText(1, "y"), pieceText(2, "z")), "xyzdefgh")
	wantPut(t, a, diffText(8, pieceText(3, "def")), a)
	wantPut(t, a, diffText(8, pieceText(7, "x")), "abcdefgx")
	wantPut(t, a, diffText(8, pieceText(0, "ABCDEFGH")), "ABCDEFGH")
	wantPut(t, a, diffText(4, pieceText(3, "x")), "abcx")
	wantPut(t, a, diffText(9, pieceText(8, "x")), a+"x")
	wantPut(t, a, diffText(10, pieceText(9, "x")), a+"\x00x")
	wantNotPut(t, a, diffText(8, pieceText(8, "x")), diffText(8, pieceText(9, "x")), diffText(8, pieceText(7, "xy")), diffText(8, pieceText(0, "ABCDEFGHI")), diffText(4, pieceText(3, "xy")), diffText(0, pieceText(0, "x")))
	for _, at := range []int{8, 255, 256, 263, 65536, 65536 + 7, 1 << 17, 1 << 23, 1<<24 - 1} {
		wantNotPut(t, a, diffText(8, pieceText(at, "x")), diffText(8, pieceText(0, "y"), pieceText(at, "x")))
	}
	long := strings.Repeat("l", 20000)
	wantPut(t, long, diffText(20000, pieceText(19999, "x")), long[1:]+"x")
	wantPut(t, "", diffText(20000, pieceText(19744, long[:256])), strings.Repeat("\x00", 19744)+long[:256])
	wantPut(t, "", diffText(20000, pieceText(0, long)), long)
	wantPut(t, "", diffText(515, pieceText(1, long[:256]), pieceText(258, long[:257])), "\x00"+long[:256]+"\x00"+long[:257])
	wantNotPut(t, long, diffText(20000, pieceText(20000, "x")), diffText(20000, pieceText(19999, "xy")), diffText(20000, pieceText(1, long)), diffText(19999, pieceText(0, long)))
}

// What stands within a piece is no end, whatever it says.
func TestPiecesThatSayEnd(t *testing.T) {
	for _, data := range []string{"END", "ENDEND", "END\x00\x00\x03", "END\x00\x00\x09xyz", "DIFFEND\x00\x00\x00", "\x00\x00\x00\x00\x01x", "EN", "DIFF"} {
		n := len(data)
		wantPut(t, "", diffText(n, pieceText(0, data)), data)
		wantPut(t, "ab", diffText(n+2, pieceText(1, data)), "a"+data+"\x00")
		wantPut(t, "", diffText(2*n, pieceText(0, data), pieceText(n, data)), data+data)
		wantDiff(t, "", data)
		wantDiff(t, strings.Repeat("-", n), data)
		wantNotPut(t, "", diffText(n, data, pieceText(0, data)))
	}
	// As a place it is behind all.
	wantNotPut(t, "", diffText(20000, "END\x00\x01x"), diffText(5, pieceText(0, "a"), "END\x00\x01x"))
}

// fullDiff has so many pieces side by side, of one byte each but for the last one, to so many bytes.
func fullDiff(pieces, all int) (string, string) {
	var list []string
	for at := range pieces - 1 {
		list = append(list, pieceText(at, "x"))
	}
	list = append(list, pieceText(pieces-1, strings.Repeat("x", all-pieces+1)))
	return diffText(all, list...), strings.Repeat("x", all)
}

func TestLongestDiffThatIsTaken(t *testing.T) {
	for _, c := range []struct {
		pieces, all, size int
		right             bool
	}{{11998, 19999, 79999, true}, {11998, 20000, 80000, true}, {11999, 19995, 80000, true}, {11999, 19996, 80001, false}, {12000, 20000, 80010, false}, {20000, 20000, 120010, false}} {
		d, want := fullDiff(c.pieces, c.all)
		if len(d) != c.size {
			t.Fatal(len(d), c.size)
		}
		if s, ok := wantApplied(t, "", d); ok != c.right || ok && s != want {
			t.Error(c, ok, brief(s))
		}
	}
}

// Against the model: each byte of some diffs, changed into each other one, left out, or with one more.
func TestDiffsThatAreSpoiled(t *testing.T) {
	taken := 0
	for _, d := range []string{diffText(3), diffText(6, pieceText(1, "x"), pieceText(3, "yz")), diffText(7, pieceText(0, "END"), pieceText(3, "EN")), diffText(259, pieceText(256, "abc"))} {
		for at := range len(d) {
			for v := range 256 {
				_, ok := wantApplied(t, "abcde", changed(d, int64(at), byte(v)))
				taken += set1(ok)
				_, ok = wantApplied(t, "abcde", d[:at]+string([]byte{byte(v)})+d[at:])
				taken += set1(ok)
			}
			wantApplied(t, "abcde", d[:at]+d[at+1:])
		}
	}
	if taken < 1000 {
		t.Error("too few were taken", taken)
	}
}

// someDiffText is text of few kinds of bytes, so that runs are met.
func someDiffText(d *dice, n int) string {
	b := make([]byte, n)
	for k := range b {
		b[k] = "ab\x00E"[d.below(4)]
	}
	return string(b)
}

// someChange is s with some bytes changed, cut or longer.
func someChange(d *dice, s string) string {
	b := []byte(s)
	for range d.below(6) {
		at, n := d.below(len(b)+1), d.below(12)
		for k := at; k < min(at+n, len(b)); k++ {
			b[k] = byte(d.below(256))
		}
	}
	switch d.below(3) {
	case 0:
		b = b[:d.below(len(b)+1)]
	case 1:
		b = append(b, bytesOf(d, d.below(40))...)
	}
	return string(b)
}

// P14, against the model.
func TestWhatDiffersIsPutBack(t *testing.T) {
	d := dice(141)
	for range 3000 {
		a := someDiffText(&d, d.below(60))
		b := someChange(&d, a)
		other := someDiffText(&d, d.below(60))
		text := wantDiff(t, a, b)
		wantDiff(t, a, other)
		wantApplied(t, other, text)
		wantApplied(t, other, spoiledText(&d, text))
	}
	for range 60 {
		a := someDiffText(&d, d.below(20003))
		wantDiff(t, a, someChange(&d, a))
		wantDiff(t, a, someDiffText(&d, 19900+d.below(103)))
	}
}

// Against the model: pieces at places near to one another, and near to the end of all.
func TestPiecesAtSomePlaces(t *testing.T) {
	d := dice(142)
	taken, asked := 0, 6000
	for range asked {
		var pieces []string
		at := 0
		for range d.below(5) {
			at = max(at+d.below(5)-1, 0)
			data := someDiffText(&d, (d.below(8)+1)/2)
			pieces = append(pieces, pieceText(at, data))
			at += len(data)
		}
		_, ok := wantApplied(t, someDiffText(&d, d.below(20)), diffText(max(at+d.below(6)-1, 0), pieces...))
		taken += set1(ok)
	}
	if taken < asked/10 || taken > asked*9/10 {
		t.Error("too few of one kind", taken)
	}
}

// P19: what a call refused, or another one told, changes nothing.
func TestDiffsKeepNothing(t *testing.T) {
	first := wantDiff(t, "abc", "abd")
	wantDiff(t, strings.Repeat("x", 20001), "y")
	wantApplied(t, "q", "DIFF")
	if again := wantDiff(t, "abc", "abd"); again != first {
		t.Errorf("%q %q", first, again)
	}
	wantPut(t, "abc", first, "abd")
}
