package tests

import (
	"strings"
	"testing"

	"loop.example/g00460/impl"
)

// modelPacked asks place by place whether three alike bytes stand there.
func modelPacked(s string) (string, bool) {
	if len(s) > 20000 {
		return "", false
	}
	three := func(at int) bool { return at+2 < len(s) && s[at] == s[at+1] && s[at] == s[at+2] }
	var out strings.Builder
	for at := 0; at < len(s); {
		end := at + 1
		if three(at) {
			for end < len(s) && end-at < 128 && s[end] == s[end-1] {
				end++
			}
			out.Write([]byte{byte(257 - (end - at)), s[at]})
		} else {
			for end < len(s) && end-at < 128 && !three(end) {
				end++
			}
			out.WriteString(string([]byte{byte(end - at - 1)}) + s[at:end])
		}
		at = end
	}
	return out.String(), true
}

// modelUnpacked goes byte by byte: how many are still to be taken as they are, and how often the next one stands.
func modelUnpacked(s string) (string, bool) {
	if len(s) > 40000 {
		return "", false
	}
	var out []byte
	taken, times := 0, 0
	for _, b := range []byte(s) {
		switch {
		case taken > 0:
			out = append(out, b)
			taken--
		case times > 0:
			for ; times > 0; times-- {
				out = append(out, b)
			}
		case b < 128:
			taken = int(b) + 1
		case b == 128:
			return "", false
		default:
			times = 257 - int(b)
		}
	}
	if taken > 0 || times > 0 || len(out) > 20000 {
		return "", false
	}
	return string(out), true
}

// wantPacked asks for what the model tells, twice, and for P15; it tells what is packed.
func wantPacked(t *testing.T, s string) string {
	t.Helper()
	was := strings.Clone(s)
	want, ok := modelPacked(s)
	for range 2 {
		if p, is := impl.PackedOf(s); is != ok || p != want {
			t.Fatalf("PackedOf(%s of %d) = %s, %v, want %s, %v", brief(s), len(s), brief(p), is, brief(want), ok)
		}
	}
	if ok {
		if back, is := impl.Unpacked(want); !is || back != s {
			t.Fatalf("%s of %d does not come back: %s of %d, %v", brief(s), len(s), brief(back), len(back), is)
		}
	}
	if s != was {
		t.Fatalf("PackedOf(%s): the argument was written into", brief(s))
	}
	return want
}

// wantUnpacked asks for what the model tells, twice, and that it comes back when it is packed again; it tells that.
func wantUnpacked(t *testing.T, s string) (string, bool) {
	t.Helper()
	was := strings.Clone(s)
	want, ok := modelUnpacked(s)
	for range 2 {
		if u, is := impl.Unpacked(s); is != ok || u != want {
			t.Fatalf("Unpacked(%s of %d) = %s of %d, %v, want %s of %d, %v", brief(s), len(s), brief(u), len(u), is, brief(want), len(want), ok)
		}
	}
	if ok {
		wantPacked(t, want)
	}
	if s != was {
		t.Fatalf("Unpacked(%s): the argument was written into", brief(s))
	}
	return want, ok
}

func wantNotUnpacked(t *testing.T, list ...string) {
	t.Helper()
	for _, s := range list {
		if u, ok := wantUnpacked(t, s); ok || u != "" {
			t.Errorf("Unpacked(%s) = %s, %v, want none", brief(s), brief(u), ok)
		}
	}
}

// unlike has so many bytes no two of which, side by side, are alike.
func unlike(n int) string {
	b := make([]byte, n)
	for k := range b {
		b[k] = byte(k)
	}
	return string(b)
}

func TestWhatIsPacked(t *testing.T) {
	a := func(n int) string { return strings.Repeat("a", n) }
	for _, c := range []struct{ s, want string }{
		{"", ""},
		{"a", "\x00a"},
		{"aa", "\x01aa"},
		{"aaa", "\xfea"},
		{"aaaa", "\xfda"},
		{"aaaaa", "\xfca"},
		{"\x00\x00\x00", "\xfe\x00"},
		{"\xff\xff\xff\x80\x80\x80", "\xfe\xff\xfe\x80"},
		{"ab", "\x01ab"},
		{"aab", "\x02aab"},
		{"abb", "\x02abb"},
		{"aabb", "\x03aabb"},
		{"ababab", "\x05ababab"},
		{"aabbcc", "\x05aabbcc"},
		{"aabbb", "\x01aa\xfeb"},
		{"aaabb", "\xfea\x01bb"},
		{"abbb", "\x00a\xfeb"},
		{"aaab", "\xfea\x00b"},
		{"aaabbb", "\xfea\xfeb"},
		{"abaaab", "\x01ab\xfea\x00b"},
		{"aabaaabaa", "\x02aab\xfea\x02baa"},
		{a(126), "\x83a"},
		{a(127), "\x82a"},
		{a(128), "\x81a"},
		{a(129), "\x81a\x00a"},
		{a(130), "\x81a\x01aa"},
		{a(131), "\x81a\xfea"},
		{a(132), "\x81a\xfda"},
		{a(255), "\x81a\x82a"},
		{a(256), "\x81a\x81a"},
		{a(257), "\x81a\x81a\x00a"},
		{a(258), "\x81a\x81a\x01aa"},
		{a(259), "\x81a\x81a\xfea"},
		{a(129) + "b", "\x81a\x01ab"},
		{a(130) + "b", "\x81a\x02aab"},
		{a(130) + "bbb", "\x81a\x01aa\xfeb"},
		{a(130) + "bb", "\x81a\x03aabb"},
		{"b" + a(128) + "b", "\x00b\x81a\x00b"},
	} {
		if p := wantPacked(t, c.s); p != c.want {
			t.Errorf("PackedOf(%q) = %q, want %q", c.s, p, c.want)
		}
		if u, ok := wantUnpacked(t, c.want); !ok || u != c.s {
			t.Errorf("Unpacked(%q) = %q, %v, want %q", c.want, u, ok, c.s)
		}
	}
}

func TestPackedBytesThatAreNotAlike(t *testing.T) {
	whole := "\x7f" + unlike(128)
	for _, c := range []struct {
		n    int
		want string
	}{
		{1, "\x00\x00"},
		{126, "\x7d" + unlike(126)},
		{127, "\x7e" + unlike(127)},
		{128, whole},
		{129, whole + "\x00\x80"},
		{130, whole + "\x01\x80\x81"},
		{255, whole + "\x7e" + unlike(255)[128:]},
		{256, whole + "\x7f" + unlike(256)[128:]},
		{257, whole + "\x7f" + unlike(256)[128:] + "\x00\x00"},
	} {
		s := unlike(c.n)
		if p := wantPacked(t, s); p != c.want {
			t.Errorf("%d: %q, want %q", c.n, p, c.want)
		}
		if p := wantPacked(t, s+"\xe0\xe0\xe0"); p != c.want+"\xfe\xe0" {
			t.Errorf("%d and three: %q, want %q", c.n, p, c.want+"\xfe\xe0")
		}
		if p := wantPacked(t, "\xe0\xe0\xe0"+s); p != "\xfe\xe0"+c.want {
			t.Errorf("three and %d: %q, want %q", c.n, p, "\xfe\xe0"+c.want)
		}
		if p := wantPacked(t, s+"\xe0\xe0\xe0"+s); p != c.want+"\xfe\xe0"+c.want {
			t.Errorf("%d, three, %d: %q", c.n, c.n, p)
		}
		for _, two := range []string{"\xe0", "\xe0\xe0"} {
			wantPacked(t, s+two)
			wantPacked(t, s+two+"aaa")
			wantPacked(t, s+"aa"+two+"aaa")
		}
	}
	// Alike bytes that begin within the 128 and end behind them: two of them stand at the end of these.
	for n := 120; n <= 135; n++ {
		for more := 1; more <= 8; more++ {
			wantPacked(t, unlike(n)+strings.Repeat("\xe0", more)+unlike(3))
		}
	}
}

func TestBoundsOfPacking(t *testing.T) {
	for _, n := range []int{19999, 20000, 20001, 20002, 40000, 40001, 100000} {
		for _, s := range []string{strings.Repeat("a", n), unlike(n), strings.Repeat("abbb", 25000)[:n], strings.Repeat("aab", 40000)[:n], strings.Repeat("aaabb", 20000)[:n]} {
			if p := wantPacked(t, s); (p != "") != (n <= 20000) {
				t.Error(n, brief(p))
			}
		}
	}
	if p := wantPacked(t, strings.Repeat("a", 20000)); p != strings.Repeat("\x81a", 156)+"\xe1a" {
		t.Error(brief(p))
	}
	if p := wantPacked(t, unlike(20000)); len(p) != 20157 {
		t.Error(len(p))
	}
}

func TestLengthsThatAreUnpacked(t *testing.T) {
	long := unlike(300)
	for b := range 256 {
		code := string([]byte{byte(b)})
		taken, times := 1, 1
		switch {
		case b < 128:
			taken = b + 1
		case b > 128:
			times = 257 - b
		default:
			taken, times = 0, 0
		}
		wantNotUnpacked(t, code, code+long[:max(taken, 1)-1], "\x00a"+code, "\xfea"+code)
		if b == 128 {
			wantNotUnpacked(t, code+"a", code+long[:129], "\x00a"+code+"a", code+"a"+"\x00a", code+code)
			continue
		}
		want := strings.Repeat(long[1:taken+1], times)
		for _, around := range []struct{ packed, plain string }{{"", ""}, {"\x00x", "x"}, {"\x02\x80\x80\x80", "\x80\x80\x80"}, {"\xff\x80", "\x80\x80"}} {
			s := around.packed + code + long[1:taken+1] + around.packed
			if u, ok := wantUnpacked(t, s); !ok || u != around.plain+want+around.plain {
				t.Errorf("%d: Unpacked(%s) = %s, %v", b, brief(s), brief(u), ok)
			}
		}
	}
}

func TestWhatIsNotUnpacked(t *testing.T) {
	wantNotUnpacked(t, "\x80", "\x80a", "\x80aa", "\x00a\x80", "\x00a\x80a", "\xfea\x80a", "\x80\x00a")
	wantNotUnpacked(t, "\x00", "\x01", "\x01a", "\x02ab", "\x7f", "\x7f"+unlike(127), "\x81", "\xfe", "\xff", "\x00a\x00", "\x00a\xff", "\x00a\x01b", "\xfea\x01b", "\xfea\xfe")
	for _, c := range []struct{ s, want string }{
		{"\x7f" + unlike(128), unlike(128)},
		{"\x81a", strings.Repeat("a", 128)},
		{"\x82a", strings.Repeat("a", 127)},
		{"\xffa", "aa"},
		{"\x02aaa", "aaa"},
		{"\x00a\x00a\x00a", "aaa"},
		{"\x00\x80", "\x80"},
		{"\xfe\x80", "\x80\x80\x80"},
		{"\x01\x80\x80\xff\x00", "\x80\x80\x00\x00"},
	} {
		if u, ok := wantUnpacked(t, c.s); !ok || u != c.want {
			t.Errorf("Unpacked(%q) = %q, %v, want %q", c.s, u, ok, c.want)
		}
	}
}

func TestBoundsOfUnpacking(t *testing.T) {
	single := strings.Repeat("\x00a", 20000)
	if u, ok := wantUnpacked(t, single); !ok || u != strings.Repeat("a", 20000) {
		t.Error(ok, len(u))
	}
	wantNotUnpacked(t, single+"a", single+"\x00", single+"\x00a", single+"\xffa", single[2:]+"\x80a", single[2:]+"\x80", single[2:]+"\x01ab", single[2:]+"\xffa")
	// More bytes than are taken, though few would come of them.
	wantNotUnpacked(t, single[:39999], strings.Repeat("\x00", 40001), strings.Repeat("\x7f"+unlike(128), 311), strings.Repeat("\x81a", 20001))
	alike := strings.Repeat("\x81a", 156)
	for _, c := range []struct {
		more string
		size int
	}{{"\xe2a", 19999}, {"\xe1a", 20000}, {"\xe1a\x00b", 20001}, {"\xe0a", 20001}, {"\xe2a\x00b", 20000}, {"\xe2a\x01bc", 20001}, {"\xe2a\xffb", 20001}, {"\x1f" + unlike(32), 20000}, {"\x20" + unlike(33), 20001}, {"\x81a", 20096}, {strings.Repeat("\x81a", 10000), 1299968}} {
		if u, ok := wantUnpacked(t, alike+c.more); ok != (c.size <= 20000) || ok && len(u) != c.size {
			t.Error(c.size, ok, len(u))
		}
	}
	others := strings.Repeat("\x7f"+unlike(128), 156)
	for more := 30; more <= 34; more++ {
		u, ok := wantUnpacked(t, others+string([]byte{byte(more - 1)})+unlike(more))
		if ok != (more <= 32) || ok && len(u) != 156*128+more {
			t.Error(more, ok, len(u))
		}
	}
}

// P15: each text of two bytes, and of three, up to some length.
func TestAllShortTextsComeBack(t *testing.T) {
	var all func(s string, of string, most int)
	all = func(s string, of string, most int) {
		wantPacked(t, s)
		for k := range len(of) {
			if len(s) < most {
				all(s+of[k:k+1], of, most)
			}
		}
	}
	all("", "a\x80", 12)
	all("", "ab\x00", 8)
}

// P15, against the model: runs of all lengths, side by side.
func TestRunsComeBack(t *testing.T) {
	d := dice(151)
	for range 1500 {
		var s strings.Builder
		for range d.below(12) {
			n := []int{1, 2, 3, 4, 126, 127, 128, 129, 130, 131, 1 + d.below(300)}[d.below(11)]
			if d.below(3) == 0 {
				s.WriteString(unlike(n))
			} else {
				s.WriteString(strings.Repeat(someOf(&d, "a", "b", "\x00", "\x80", "\xff"), n))
			}
		}
		wantPacked(t, s.String())
	}
	for range 20 {
		wantPacked(t, bytesOf(&d, 19990+d.below(12)))
		wantPacked(t, someDiffText(&d, 19990+d.below(12)))
	}
}

// Against the model: bytes that nobody packed.
func TestUnpackedAgainstTheModel(t *testing.T) {
	d := dice(152)
	taken, asked := 0, 20000
	for range asked {
		var s []byte
		for range d.below(8) {
			b := []byte{0, 1, 2, 3, 126, 127, 128, 129, 130, 253, 254, 255}[d.below(12)]
			s = append(s, b)
			if n := int(b) + 1; b < 128 {
				s = append(s, bytesOf(&d, n)...)
			} else {
				s = append(s, 'a')
			}
		}
		if len(s) > 0 && d.below(3) == 0 {
			at := d.below(len(s))
			s = append(s[:at], s[at+1:]...)
		}
		_, ok := wantUnpacked(t, string(s))
		taken += set1(ok)
	}
	if taken < asked/5 || taken > asked*4/5 {
		t.Error("too few of one kind", taken)
	}
}
