package tests

import (
	"fmt"
	"slices"
	"strings"
	"sync"
	"testing"

	"loop.example/g00460/impl"
)

type pairs = []impl.Pair

// pairsOf takes a text and its byte, one pair behind the other.
func pairsOf(list ...any) (out pairs) {
	for k := 0; k < len(list); k += 2 {
		out = append(out, impl.Pair{Text: list[k].(string), Byte: int64(list[k+1].(int))})
	}
	return out
}

func modelCharsOk(l pairs) bool {
	texts := []string{}
	for _, p := range l {
		if len(p.Text) < 1 || len(p.Text) > 4 || p.Byte != int64(byte(p.Byte)) {
			return false
		}
		texts = append(texts, p.Text)
	}
	return len(l) <= 16 && slices.IsSorted(texts) && len(slices.Compact(texts)) == len(l)
}

// modelMapped holds each pair against what stands there.
func modelMapped(l pairs, s string) (string, bool) {
	if !modelCharsOk(l) || len(s) > 20000 {
		return "", false
	}
	var out []byte
	for s != "" {
		var best impl.Pair
		for _, p := range l {
			if strings.HasPrefix(s, p.Text) && len(p.Text) > len(best.Text) {
				best = p
			}
		}
		if best.Text == "" {
			return "", false
		}
		out = append(out, byte(best.Byte))
		s = s[len(best.Text):]
	}
	return string(out), true
}

func modelUnmapped(l pairs, s string) (string, bool) {
	if !modelCharsOk(l) || len(s) > 20000 {
		return "", false
	}
	var out strings.Builder
	for _, b := range []byte(s) {
		k := slices.IndexFunc(l, func(p impl.Pair) bool { return p.Byte == int64(b) })
		if k < 0 {
			return "", false
		}
		out.WriteString(l[k].Text)
	}
	return out.String(), true
}

var pairMark = impl.Pair{Text: "mark", Byte: 99}

func wantChars(t *testing.T, l pairs, right bool) {
	t.Helper()
	given, all, before := guarded(l, pairMark)
	if impl.CharsOk(given) != right || modelCharsOk(l) != right {
		t.Errorf("CharsOk(%s) = %v, want %v", brief(l), !right, right)
	}
	if !slices.Equal(all, before) {
		t.Fatalf("CharsOk(%s): the argument was written into", brief(l))
	}
	if s, ok := impl.Mapped(given, ""); s != "" || ok != right {
		t.Errorf("Mapped(%s, nothing) = %q, %v", brief(l), s, ok)
	}
	if s, ok := impl.Unmapped(given, ""); s != "" || ok != right {
		t.Errorf("Unmapped(%s, nothing) = %q, %v", brief(l), s, ok)
	}
}

// asksChars asks one of the functions for what its model tells, twice; it tells that.
func asksChars(t *testing.T, what string, ask, model func(pairs, string) (string, bool), l pairs, s string) (string, bool) {
	t.Helper()
	given, all, before := guarded(l, pairMark)
	was := strings.Clone(s)
	want, ok := model(l, s)
	for range 2 {
		if got, is := ask(given, s); is != ok || got != want {
			t.Fatalf("%s(%s, %s) = %s, %v, want %s, %v", what, brief(l), brief(s), brief(got), is, brief(want), ok)
		}
	}
	if !slices.Equal(all, before) || s != was {
		t.Fatalf("%s(%s, %s): an argument was written into", what, brief(l), brief(s))
	}
	return want, ok
}

func wantUnmapped(t *testing.T, l pairs, s string) (string, bool) {
	t.Helper()
	return asksChars(t, "Unmapped", impl.Unmapped, modelUnmapped, l, s)
}

// wantMapped asks for what the model tells, and for P16: as many texts as bytes, each one with that byte, are s.
func wantMapped(t *testing.T, l pairs, s string) (string, bool) {
	t.Helper()
	m, ok := asksChars(t, "Mapped", impl.Mapped, modelMapped, l, s)
	if !ok {
		return m, false
	}
	// Each place of s that is reached by the texts of the bytes so far.
	reached := []int{0}
	for _, b := range []byte(m) {
		var next []int
		for _, p := range l {
			for _, at := range reached {
				if p.Byte == int64(b) && strings.HasPrefix(s[at:], p.Text) && !slices.Contains(next, at+len(p.Text)) {
					next = append(next, at+len(p.Text))
				}
			}
		}
		reached = next
	}
	if !slices.Contains(reached, len(s)) {
		t.Fatalf("Mapped(%s, %s) = %s: these are not the texts of its bytes", brief(l), brief(s), brief(m))
	}
	return m, true
}

func wantBytes(t *testing.T, l pairs, s, want string) {
	t.Helper()
	if m, ok := wantMapped(t, l, s); !ok || m != want {
		t.Errorf("Mapped(%v, %q) = %q, %v, want %q", l, s, m, ok, want)
	}
}

func wantNoBytes(t *testing.T, l pairs, list ...string) {
	t.Helper()
	for _, s := range list {
		if m, ok := wantMapped(t, l, s); ok || m != "" {
			t.Errorf("Mapped(%v, %s) = %q, %v, want none", l, brief(s), m, ok)
		}
	}
}

func wantTexts(t *testing.T, l pairs, s, want string) {
	t.Helper()
	if u, ok := wantUnmapped(t, l, s); !ok || u != want {
		t.Errorf("Unmapped(%v, %q) = %q, %v, want %q", l, s, u, ok, want)
	}
}

func wantNoTexts(t *testing.T, l pairs, list ...string) {
	t.Helper()
	for _, s := range list {
		if u, ok := wantUnmapped(t, l, s); ok || u != "" {
			t.Errorf("Unmapped(%v, %s) = %q, %v, want none", l, brief(s), u, ok)
		}
	}
}

// letterPairs are so many pairs of one letter each, with bytes from 200 on.
func letterPairs(n int) (out pairs) {
	for k := range n {
		out = append(out, impl.Pair{Text: string(rune('a' + k)), Byte: int64(200 + k)})
	}
	return out
}

func TestRightChars(t *testing.T) {
	if impl.MaxChars != 16 {
		t.Error("another number")
	}
	wantChars(t, nil, true)
	wantChars(t, pairs{}, true)
	for n := range 20 {
		wantChars(t, letterPairs(n), n <= 16)
	}
	for n, right := range []bool{false, true, true, true, true, false, false} {
		text := strings.Repeat("x", n)
		wantChars(t, pairsOf(text, 1), right)
		wantChars(t, pairsOf("a", 0, text, 1), right)
		wantChars(t, pairsOf(text, 1, "y", 0), right)
		wantChars(t, pairsOf("a", 0, text, 1, "y", 0), right)
	}
	wantChars(t, pairsOf(strings.Repeat("x", 1000), 1), false)
	wantChars(t, pairsOf("\x00", 1, "\x00\x00", 2, "\n", 3, "\x80", 4, "\xff", 5, "\xff\xff\xff\xff", 6), true)
	wantChars(t, pairsOf("Z", 1, "_", 2, "a", 3, "é", 4), true)
}

func TestCharsThatDoNotRise(t *testing.T) {
	wantChars(t, pairsOf("a", 1, "a", 1), false)
	wantChars(t, pairsOf("a", 1, "a", 2), false)
	wantChars(t, pairsOf("a", 1, "b", 2, "b", 3), false)
	wantChars(t, pairsOf("a", 1, "b", 2, "a", 3), false)
	wantChars(t, pairsOf("b", 1, "a", 2), false)
	wantChars(t, pairsOf("b", 1, "a", 2, "c", 3), false)
	wantChars(t, pairsOf("a", 1, "c", 2, "b", 3), false)
	wantChars(t, pairsOf("ab", 1, "a", 2), false)
	wantChars(t, pairsOf("a", 1, "ab", 2, "abc", 3, "abcd", 4, "b", 5), true)
	wantChars(t, pairsOf("b", 1, "ab", 2), false)
	wantChars(t, pairsOf("aa", 1, "b", 2), true)
	wantChars(t, pairsOf("b", 1, "aaaa", 2), false)
	// By bytes, not by letters.
	wantChars(t, pairsOf("\x80", 1, "a", 2), false)
	wantChars(t, pairsOf("a", 1, "A", 2), false)
	last := letterPairs(16)
	last[15].Text = last[14].Text
	wantChars(t, last, false)
	last[15].Text = "a"
	wantChars(t, last, false)
}

func TestBytesOfChars(t *testing.T) {
	for _, b := range []int64{0, 1, 127, 128, 254, 255} {
		wantChars(t, pairs{{Text: "a", Byte: b}}, true)
		wantChars(t, pairs{{Text: "a", Byte: 1}, {Text: "b", Byte: b}}, true)
	}
	for _, b := range append(slices.Clone(noBytes), farNumbers...) {
		wantChars(t, pairs{{Text: "a", Byte: b}}, false)
		wantChars(t, pairs{{Text: "a", Byte: 1}, {Text: "b", Byte: b}}, false)
		wantChars(t, pairs{{Text: "a", Byte: b}, {Text: "b", Byte: 1}}, false)
		wantNoBytes(t, pairs{{Text: "a", Byte: 1}, {Text: "b", Byte: b}}, "", "a", "b")
		wantNoTexts(t, pairs{{Text: "a", Byte: 1}, {Text: "b", Byte: b}}, "", "\x01", string([]byte{byte(b)}))
	}
}

func TestLongestTextIsMapped(t *testing.T) {
	three := pairsOf("a", 1, "ab", 2, "abc", 3)
	for s, want := range map[string]string{"": "", "a": "\x01", "aa": "\x01\x01", "ab": "\x02", "abc": "\x03", "aab": "\x01\x02", "aba": "\x02\x01", "abab": "\x02\x02", "abcabc": "\x03\x03", "aabcab": "\x01\x03\x02", "abca": "\x03\x01", "ababc": "\x02\x03"} {
		wantBytes(t, three, s, want)
	}
	wantNoBytes(t, three, "b", "c", "ba", "ac", "abb", "abcc", "abcb", "aabb", "x", "\x00", "A")
	four := pairsOf("a", 1, "aa", 2, "aaa", 3, "aaaa", 4)
	wantBytes(t, four, "aaaa", "\x04")
	wantBytes(t, four, "aaaaa", "\x04\x01")
	wantBytes(t, four, "aaaaaaa", "\x04\x03")
	wantBytes(t, four, "aaaaaaaa", "\x04\x04")
	// The longest one is taken even where what is behind it then stands nowhere.
	wantNoBytes(t, pairsOf("a", 1, "ab", 2, "bc", 3), "abc")
	wantBytes(t, pairsOf("a", 1, "ab", 2, "bc", 3), "abbc", "\x02\x03")
	wantNoBytes(t, pairsOf("aa", 1), "aaa")
	wantBytes(t, pairsOf("a", 1, "abcd", 4), "aabcda", "\x01\x04\x01")
	wantNoBytes(t, pairsOf("a", 1, "abcd", 4), "abc", "aabc", "abcda ")
}

// A text that begins another: both are there, or the longer one alone, or the shorter one alone.
func TestTextsThatBeginOthers(t *testing.T) {
	wantBytes(t, pairsOf("th", 1, "the", 2), "thethth", "\x02\x01\x01")
	wantNoBytes(t, pairsOf("the", 2), "th", "t", "theth", "thet", "thhe")
	wantBytes(t, pairsOf("the", 2), "thethe", "\x02\x02")
	wantNoBytes(t, pairsOf("th", 1), "the", "t", "tht", "thth e")
	wantBytes(t, pairsOf("th", 1), "ththth", "\x01\x01\x01")
	// What ends within a text is none.
	wantNoBytes(t, pairsOf("abcd", 1), "a", "ab", "abc", "abcda", "abcdab", "abcdabc")
}

func TestNothingStandsThere(t *testing.T) {
	l := pairsOf("a", 1, "bb", 2)
	wantNoBytes(t, l, "x", "xa", "ax", "axa", "b", "ab", "ba", "bba ", "\xffa", "bbb", "aabbab")
	wantBytes(t, l, "abba", "\x01\x02\x01")
	wantBytes(t, nil, "", "")
	wantTexts(t, nil, "", "")
	wantNoBytes(t, nil, "a", "\x00")
	wantNoTexts(t, nil, "a", "\x00")
	wantBytes(t, l, "", "")
	wantTexts(t, l, "", "")
}

func TestCharsThatAreNotRight(t *testing.T) {
	for _, l := range []pairs{pairsOf("", 1), pairsOf("", 0, "a", 1), pairsOf("a", 1, "", 0), pairsOf("a", 1, "a", 2), pairsOf("b", 1, "a", 2), pairsOf("a", 256), pairsOf("a", -1), pairsOf("a", 1, "abcde", 2), letterPairs(17), letterPairs(1000)} {
		wantChars(t, l, false)
		wantNoBytes(t, l, "", "a", "b", "aa", strings.Repeat("a", 20000))
		wantNoTexts(t, l, "", "\x01", "\x00", "\x02", "\xc8")
	}
}

func TestBoundsOfMapping(t *testing.T) {
	l := pairsOf("a", 1, "bbbb", 2)
	for _, n := range []int{19999, 20000, 20001, 20002, 100000} {
		right := n <= 20000
		if m, ok := wantMapped(t, l, strings.Repeat("a", n)); ok != right || ok && m != strings.Repeat("\x01", n) {
			t.Error(n, ok, len(m))
		}
		if u, ok := wantUnmapped(t, l, strings.Repeat("\x02", n)); ok != right || ok && u != strings.Repeat("bbbb", n) {
			t.Error(n, ok, len(u))
		}
	}
	wantBytes(t, l, strings.Repeat("bbbb", 5000), strings.Repeat("\x02", 5000))
	wantNoBytes(t, l, strings.Repeat("bbbb", 5000)+"a", strings.Repeat("a", 19999)+"x", "x"+strings.Repeat("a", 19999))
	wantNoTexts(t, l, strings.Repeat("\x01", 19999)+"\x03", "\x03"+strings.Repeat("\x01", 19999))
}

func TestFirstTextOfAByte(t *testing.T) {
	l := pairsOf("a", 1, "ab", 2, "b", 1, "c", 2, "d", 0, "e", 255, "f", 255)
	wantTexts(t, l, "\x01\x02\x01\x00\xff", "aabade")
	wantBytes(t, l, "abcdefba", "\x02\x02\x00\xff\xff\x01\x01")
	wantNoTexts(t, l, "\x03", "\x01\x03", "\x03\x01", "a", "\x01\x80", "\xfe")
	same := pairsOf("a", 7, "b", 7, "c", 7, "d", 7, "e", 7, "f", 7, "g", 7, "h", 7)
	// As often as a map might be gone through in another order.
	for range 100 {
		wantTexts(t, same, "\x07\x07", "aa")
		wantTexts(t, same[3:], "\x07", "d")
		wantBytes(t, same, "hgfedcba", "\x07\x07\x07\x07\x07\x07\x07\x07")
	}
}

// Every byte as a code, and as a text.
func TestAllBytesAreMapped(t *testing.T) {
	for b := range 256 {
		text := string([]byte{byte(b)})
		l := pairs{{Text: text, Byte: int64(255 - b)}}
		code := string([]byte{byte(255 - b)})
		wantBytes(t, l, text+text, code+code)
		wantTexts(t, l, code+code, text+text)
		other := string([]byte{byte(b + 1)})
		wantNoBytes(t, l, other, text+other, other+text)
		for v := range 256 {
			_, ok := wantUnmapped(t, l, string([]byte{byte(v)}))
			if ok != (v == 255-b) {
				t.Error(b, v)
			}
		}
	}
}

// somePairs is a list that is mostly right, of few letters, so that texts begin others.
func somePairs(d *dice, most int) pairs {
	byText := map[string]int64{}
	for range d.below(most + 1) {
		text := ""
		for range 1 + d.below(4) {
			text += someOf(d, "a", "b", "\xff")
		}
		byText[text] = int64(d.below(6))
	}
	var out pairs
	for text, b := range byText {
		out = append(out, impl.Pair{Text: text, Byte: b})
	}
	slices.SortFunc(out, func(p, q impl.Pair) int { return strings.Compare(p.Text, q.Text) })
	return out
}

func spoiledPairs(d *dice, l pairs) pairs {
	l = slices.Clone(l)
	if len(l) == 0 {
		return pairsOf("", 0)
	}
	k, n := d.below(len(l)), d.below(len(l))
	switch d.below(4) {
	case 0:
		l[k], l[n] = l[n], l[k]
	case 1:
		l[k].Text = someOf(d, "", "aaaaa", "a", "bbbb", "\xff\xff\xff\xff")
	case 2:
		l[k].Byte = []int64{-1, 256, 255, 1 << 40, -256}[d.below(5)]
	default:
		l = append(l, l[n])
	}
	return l
}

// P16, against the model.
func TestMappedAgainstTheModel(t *testing.T) {
	d := dice(161)
	mapped, told, asked := 0, 0, 15000
	for range asked {
		l := somePairs(&d, 14)
		wantChars(t, l, true)
		s := ""
		for range d.below(8) {
			if len(l) > 0 && d.below(8) > 0 {
				s += l[d.below(len(l))].Text
			} else {
				s += someOf(&d, "a", "b", "\xff", "c")
			}
		}
		_, ok := wantMapped(t, l, s)
		mapped += set1(ok)
		var codes []byte
		for range d.below(5) {
			codes = append(codes, byte(d.below(6)))
		}
		_, ok = wantUnmapped(t, l, string(codes))
		told += set1(ok)
		wrong := spoiledPairs(&d, l)
		wantChars(t, wrong, modelCharsOk(wrong))
		wantMapped(t, wrong, s)
		wantUnmapped(t, wrong, string(codes))
	}
	if mapped < asked/5 || mapped > asked*4/5 || told < asked/5 || told > asked*4/5 {
		t.Error("too few of one kind", mapped, told)
	}
}

// P16: where no two pairs have one byte, what is mapped is told again.
func TestWhatIsMappedIsToldAgain(t *testing.T) {
	d := dice(162)
	for range 3000 {
		l := somePairs(&d, 14)
		s := ""
		for k := range l {
			l[k].Byte = int64(16*k + d.below(16))
			s += l[k].Text + l[d.below(len(l))].Text
		}
		m, ok := wantMapped(t, l, s)
		if u, is := wantUnmapped(t, l, m); ok && (!is || u != s) {
			t.Fatalf("%v: %q is %q, and that %q, %v", l, s, m, u, is)
		}
	}
}

// P19: the same arguments give the same answers, also at the same time.
func TestCharsAtTheSameTime(t *testing.T) {
	l := pairsOf("a", 1, "ab", 2, "b", 1, "c", 2)
	wrong := make([]string, 8)
	var all sync.WaitGroup
	for k := range wrong {
		all.Go(func() {
			for range 200 {
				m, ok := impl.Mapped(l, "abcab")
				u, is := impl.Unmapped(l, "\x01\x02")
				if !ok || m != "\x02\x02\x02" || !is || u != "aab" || !impl.CharsOk(l) {
					wrong[k] = fmt.Sprintf("%q %v %q %v", m, ok, u, is)
				}
			}
		})
	}
	all.Wait()
	if text := strings.Join(wrong, ""); text != "" {
		t.Error(text)
	}
}

// P14, P15, P16: a text that is mapped, packed and told as a diff comes back whole.
func TestPackedTextsAsDiffs(t *testing.T) {
	l := pairsOf("and ", 4, "e", 2, "h", 3, "t", 1, "the ", 5)
	s := strings.Repeat("the hethe and thehetettt", 100)
	m, mapped := wantMapped(t, l, s)
	d := wantDiff(t, s, wantPacked(t, m))
	packed, put := impl.Applied(s, d)
	plain, unpacked := impl.Unpacked(packed)
	back, told := impl.Unmapped(l, plain)
	if !mapped || !put || !unpacked || !told || back != s {
		t.Error(mapped, put, unpacked, told, brief(back))
	}
}
