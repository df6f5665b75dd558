package tests

import (
	"regexp"
	"slices"
	"strings"
	"testing"

	"loop.example/g00460/impl"
)

var (
	labelShape = regexp.MustCompile(`^ *([a-z_.][a-z0-9_.]{0,15}) *:`)
	opShape    = regexp.MustCompile(`^[a-z]{0,10}$`)
	argsShape  = regexp.MustCompile(`^([ -:<-~]*)$`)
	blankWrong = regexp.MustCompile(`^ | $|  | ,|, `)
	commaShape = regexp.MustCompile(` *, *`)
	blankShape = regexp.MustCompile(` +`)
)

func modelArgsOk(s string) bool { return argsShape.MatchString(s) && !blankWrong.MatchString(s) }

func modelLineText(l impl.Line) string {
	text := ""
	if l.Label != "" {
		text = l.Label + ": "
	}
	return strings.TrimSuffix(text+strings.TrimSuffix(l.Op+" "+l.Args, " "), " ")
}

func modelLineOk(l impl.Line) bool {
	if l.Label != "" && labelShape.FindString(l.Label+":") != l.Label+":" || strings.Contains(l.Label, " ") {
		return false
	}
	if !opShape.MatchString(l.Op) || l.Op == "" && l.Args != "" || !modelArgsOk(l.Args) {
		return false
	}
	return len(modelLineText(l)) <= 80
}

// modelReadLine takes a line apart by shapes.
func modelReadLine(s string) (impl.Line, bool) {
	if len(s) > 240 {
		return impl.Line{}, false
	}
	s = strings.SplitN(s, ";", 2)[0]
	l := impl.Line{}
	if m := labelShape.FindStringSubmatch(s); m != nil {
		l.Label = m[1]
		s = s[len(m[0]):]
	}
	s = strings.TrimRight(strings.TrimLeft(s, " "), " ")
	l.Op = s
	if at := strings.Index(s, " "); at >= 0 {
		l.Op = s[:at]
		l.Args = strings.TrimLeft(s[at:], " ")
		l.Args = commaShape.ReplaceAllLiteralString(l.Args, ",")
		l.Args = blankShape.ReplaceAllLiteralString(l.Args, " ")
	}
	if !modelLineOk(l) {
		return impl.Line{}, false
	}
	return l, true
}

func wantLine(t *testing.T, s string, want impl.Line) {
	t.Helper()
	l, ok := impl.ReadLine(s)
	if !ok || l != want || !impl.LineOk(l) {
		t.Errorf("ReadLine(%q) = %q, %v, want %q", s, l, ok, want)
	}
}

func wantNoLine(t *testing.T, s string) {
	t.Helper()
	if l, ok := impl.ReadLine(s); ok || l != (impl.Line{}) {
		t.Errorf("ReadLine(%q) = %q, %v, want none", s, l, ok)
	}
}

// wantRight asks whether a line is right, and for its text.
func wantRight(t *testing.T, l impl.Line, right bool) {
	t.Helper()
	text := ""
	if right {
		text = modelLineText(l)
	}
	if impl.LineOk(l) != right || impl.LineText(l) != text {
		t.Errorf("%q: LineOk is %v, LineText %q, want %v", l, impl.LineOk(l), impl.LineText(l), right)
	}
}

func TestLineTexts(t *testing.T) {
	for text, l := range map[string]impl.Line{
		"":                    {},
		"a:":                  {Label: "a"},
		"nop":                 {Op: "nop"},
		"a: nop":              {Label: "a", Op: "nop"},
		"ld a,b":              {Op: "ld", Args: "a,b"},
		".x: ld a,b + 1":      {Label: ".x", Op: "ld", Args: "a,b + 1"},
		"abcdefghijklmnop: x": {Label: "abcdefghijklmnop", Op: "x"},
		"x ,,":                {Op: "x", Args: ",,"},
		"x y: z":              {Op: "x", Args: "y: z"},
		"x ::":                {Op: "x", Args: "::"},
		"a: x y:z":            {Label: "a", Op: "x", Args: "y:z"},
	} {
		if !impl.LineOk(l) || impl.LineText(l) != text {
			t.Errorf("%q: %v, %q, want %q", l, impl.LineOk(l), impl.LineText(l), text)
		}
	}
}

func TestLinesThatAreNotRight(t *testing.T) {
	for _, l := range []impl.Line{
		{Args: "a"}, {Label: "a", Args: "a"}, {Args: ","},
		{Label: "1", Op: "nop"}, {Label: "A", Op: "nop"}, {Label: "a b"}, {Label: "a:"}, {Label: " a"}, {Label: "a "}, {Label: ":"},
		{Label: "abcdefghijklmnopq"}, {Label: "\xff"},
		{Op: "LD"}, {Op: "ld1"}, {Op: "l d"}, {Op: "ld "}, {Op: " ld"}, {Op: ".ld"}, {Op: "l_"}, {Op: "a:"}, {Op: "abcdefghijk"}, {Op: "\xe9"},
		{Op: "ld", Args: " "}, {Op: "ld", Args: " a"}, {Op: "ld", Args: "a "}, {Op: "ld", Args: "a  b"},
		{Op: "ld", Args: "a, b"}, {Op: "ld", Args: "a ,b"}, {Op: "ld", Args: " ,"}, {Op: "ld", Args: ", "},
		{Op: "ld", Args: "a;b"}, {Op: "ld", Args: ";"}, {Op: "ld", Args: "a\n"}, {Op: "ld", Args: "\ta"}, {Op: "ld", Args: "a\x00"}, {Op: "ld", Args: "é"},
	} {
		wantRight(t, l, false)
	}
}

func TestLinesByEachByte(t *testing.T) {
	for c := range 256 {
		s := string([]byte{byte(c)})
		for _, l := range []impl.Line{
			{Label: s}, {Label: "a" + s}, {Label: "a" + s + "b", Op: "nop"},
			{Op: s}, {Op: "a" + s}, {Op: s + "b"}, {Label: "a", Op: "a" + s + "b", Args: "x"},
			{Op: "ld", Args: s}, {Op: "ld", Args: "a" + s}, {Op: "ld", Args: s + "b"}, {Op: "ld", Args: "a" + s + "b"},
			{Op: "ld", Args: "a," + s + "b"}, {Op: "ld", Args: "a" + s + ",b"}, {Op: "ld", Args: "a " + s + "b"}, {Op: "ld", Args: "a" + s + " b"},
		} {
			wantRight(t, l, modelLineOk(l))
		}
		right := c >= 32 && c <= 126 && c != ';'
		wantRight(t, impl.Line{Op: "ld", Args: "a" + s + "b"}, right)
		wantRight(t, impl.Line{Op: "ld", Args: "a," + s}, right && c != ' ')
		wantRight(t, impl.Line{Op: "a" + s}, c >= 'a' && c <= 'z')
	}
	for _, c := range []byte{31, 127, 128, 255} {
		wantNoLine(t, "ld a"+string([]byte{c})+"b")
		wantNoLine(t, string([]byte{c})+"nop")
		wantNoLine(t, "nop"+string([]byte{c}))
	}
	wantLine(t, "ld ~\x20!", impl.Line{Op: "ld", Args: "~ !"})
}

func TestLinesAtTheirLimits(t *testing.T) {
	for n := range 14 {
		wantRight(t, impl.Line{Op: strings.Repeat("z", n)}, n <= 10)
		if n > 10 {
			wantNoLine(t, strings.Repeat("z", n))
		}
	}
	for n := range 40 {
		wantRight(t, impl.Line{Label: strings.Repeat("z", n), Op: "nop"}, n <= 16)
	}
	for n := 1; n < 90; n++ {
		args := strings.Repeat("x", n)
		wantRight(t, impl.Line{Op: "a", Args: args}, n+2 <= 80)
		wantRight(t, impl.Line{Op: "abcdefghij", Args: args}, n+11 <= 80)
		wantRight(t, impl.Line{Label: "l", Op: "a", Args: args}, n+5 <= 80)
		wantRight(t, impl.Line{Label: "abcdefghijklmnop", Op: "a", Args: args}, n+20 <= 80)
	}
	// What is read may be shorter than its text: there a blank stands behind the colon.
	wantNoLine(t, "l:a "+strings.Repeat("x", 76))
	wantLine(t, "l:a "+strings.Repeat("x", 75), impl.Line{Label: "l", Op: "a", Args: strings.Repeat("x", 75)})
}

func TestReadLineAtItsLimit(t *testing.T) {
	nop := impl.Line{Op: "nop"}
	for _, fill := range []string{" ", ";", "x"} {
		wantLine(t, "nop;"+strings.Repeat(fill, 236), nop)
		wantNoLine(t, "nop;"+strings.Repeat(fill, 237))
	}
	wantLine(t, "nop"+strings.Repeat(" ", 237), nop)
	wantNoLine(t, "nop"+strings.Repeat(" ", 238))
	wantLine(t, strings.Repeat(" ", 237)+"nop", nop)
	wantNoLine(t, strings.Repeat(" ", 238)+"nop")
	wantLine(t, "ld a"+strings.Repeat(" ", 235)+"b", impl.Line{Op: "ld", Args: "a b"})
	wantNoLine(t, "ld a"+strings.Repeat(" ", 236)+"b")
	wantLine(t, strings.Repeat(" ", 240), impl.Line{})
	wantNoLine(t, strings.Repeat(" ", 241))
	wantNoLine(t, strings.Repeat("x", 100000))
	wantLine(t, "l : a  "+strings.Repeat("x", 75)+"  ", impl.Line{Label: "l", Op: "a", Args: strings.Repeat("x", 75)})
	wantNoLine(t, "l : a  "+strings.Repeat("x", 76)+"  ")
	wantNoLine(t, strings.Repeat("x", 81))
}

func TestReadLine(t *testing.T) {
	for s, want := range map[string]impl.Line{
		"":                            {},
		" ":                           {},
		"     ":                       {},
		";":                           {},
		" ; a: b":                     {},
		"a:":                          {Label: "a"},
		" a : ":                       {Label: "a"},
		"a:;b":                        {Label: "a"},
		"nop":                         {Op: "nop"},
		"  nop  ":                     {Op: "nop"},
		"nop;":                        {Op: "nop"},
		"nop ; x ; y":                 {Op: "nop"},
		"n;op":                        {Op: "n"},
		"a;b:c":                       {Op: "a"},
		"a:nop":                       {Label: "a", Op: "nop"},
		"a   :nop":                    {Label: "a", Op: "nop"},
		"a:   nop":                    {Label: "a", Op: "nop"},
		".a.b_1:nop":                  {Label: ".a.b_1", Op: "nop"},
		"ld a,b":                      {Op: "ld", Args: "a,b"},
		"ld   a  ,  b  ":              {Op: "ld", Args: "a,b"},
		"ld  a   b    c":              {Op: "ld", Args: "a b c"},
		"ld , , ,a , , ":              {Op: "ld", Args: ",,,a,,"},
		"ld ,":                        {Op: "ld", Args: ","},
		"ld  a b , c  d ":             {Op: "ld", Args: "a b,c d"},
		"ld a;,b":                     {Op: "ld", Args: "a"},
		"ld a ,;b":                    {Op: "ld", Args: "a,"},
		"ld a:b":                      {Op: "ld", Args: "a:b"},
		"ld a: b":                     {Op: "ld", Args: "a: b"},
		"ld a :b":                     {Op: "ld", Args: "a :b"},
		"ld :b":                       {Label: "ld", Op: "b"},
		"ld: a :b":                    {Label: "ld", Op: "a", Args: ":b"},
		"a: b c:d:e":                  {Label: "a", Op: "b", Args: "c:d:e"},
		"a: ld ::":                    {Label: "a", Op: "ld", Args: "::"},
		"x y:z":                       {Op: "x", Args: "y:z"},
		"ld A,\"x\"":                  {Op: "ld", Args: "A,\"x\""},
		"abcdefghijklmnop:abcdefghij": {Label: "abcdefghijklmnop", Op: "abcdefghij"},
		"macro \\1":                   {Op: "macro", Args: "\\1"},
		"db\x20\x20\x7e":              {Op: "db", Args: "~"},
	} {
		wantLine(t, s, want)
	}
	for _, s := range []string{
		"Nop", "nop1", "n.p", "nop,", ",", "1", "$1", "\\1", "a:b:c", "a::", "::", ":", ":nop", " : nop", "1:nop", "A:nop", "a-b:nop", "\xffa:nop",
		"abcdefghijklmnopq:nop", "abcdefghijk", "a:abcdefghijk", "a: Nop", "a: ,", "ld\ta", "\tnop", "nop\t", "nop\n", "a\t:nop", "nop\r", "nop\x00",
		"ld a\x1f", "ld a\x7f", "ld \x80", "ld é", "ld\u00a0a", "ld, a",
	} {
		wantNoLine(t, s)
	}
}

// somePiece is one of those of which texts of lines are made, right and wrong ones.
func somePiece(d *dice) string {
	pieces := []string{" ", " ", "  ", ",", ",", ":", ":", ";", "a", "b", "ld", "nop", ".x", "_", "1", "A", "\\1", "+", "a,b", "abcdefghij", "abcdefghijklmnop", "~", "\x1f", "\x7f", "\xe9"}
	// The last ones make a line wrong nearly always, so they are seldom.
	if d.below(12) > 0 {
		return pieces[d.below(len(pieces)-3)]
	}
	return pieces[d.below(len(pieces))]
}

func someText(d *dice) string {
	s := ""
	for range d.below(14) {
		s += somePiece(d)
	}
	return s
}

func TestReadLineAgainstTheModel(t *testing.T) {
	d := dice(71)
	right := 0
	for range 200000 {
		s := someText(&d)
		want, ok := modelReadLine(s)
		if l, is := impl.ReadLine(s); is != ok || l != want {
			t.Fatalf("ReadLine(%q) = %q, %v, want %q, %v", s, l, is, want, ok)
		}
		if ok {
			right++
		}
	}
	if right < 20000 {
		t.Error("too few were right", right)
	}
}

func TestLineOkAgainstTheModel(t *testing.T) {
	d := dice(72)
	right := 0
	for range 200000 {
		l := impl.Line{Label: strings.Trim(someText(&d), " :;,"), Op: somePiece(&d), Args: someText(&d)}
		if d.below(2) == 0 {
			l.Label = []string{"", "a", ".x"}[d.below(3)]
		}
		if d.below(2) == 0 {
			l.Op = []string{"", "ld"}[d.below(2)]
		}
		wantRight(t, l, modelLineOk(l))
		if impl.LineOk(l) {
			right++
		}
	}
	if right < 10000 {
		t.Error("too few were right", right)
	}
}

// someLine is a right one, with colons anywhere in its Args.
func someLine(d *dice) impl.Line {
	for {
		l := impl.Line{Label: []string{"", "a", ".x", "main.loop", "abcdefghijklmnop"}[d.below(5)], Op: []string{"", "x", "ld", "abcdefghij"}[d.below(4)]}
		if l.Op != "" {
			for range d.below(30) {
				l.Args += []string{"a", "b", " ", ",", ":", "+1", "\\1", "~", "(", "A", "\"", "abcdefgh"}[d.below(12)]
			}
		}
		if modelLineOk(l) {
			return l
		}
	}
}

// P7: a right line that has a label, or no colon in its Args, comes back from its text.
func TestRightLineComesBackFromItsText(t *testing.T) {
	d := dice(73)
	asked := 0
	for range 30000 {
		l := someLine(&d)
		if l.Label == "" && strings.Contains(l.Args, ":") {
			continue
		}
		asked++
		text := impl.LineText(l)
		if text == "" && l != (impl.Line{}) {
			t.Fatalf("%q has no text", l)
		}
		if back, ok := impl.ReadLine(text); !ok || back != l {
			t.Fatalf("%q: text %q comes back as %q, %v", l, text, back, ok)
		}
	}
	if asked < 10000 {
		t.Error("too few were asked", asked)
	}
}

// P7: a comment changes nothing, nor do blanks at the ends.
func TestACommentChangesNothing(t *testing.T) {
	d := dice(74)
	right := 0
	for range 50000 {
		s := strings.ReplaceAll(someText(&d), ";", "")
		l, ok := impl.ReadLine(s)
		if ok {
			right++
		}
		for _, more := range []string{";", "; c", " ;", "  ;;a: b,c", ";\x00\xff\n", ";" + someText(&d)} {
			if m, is := impl.ReadLine(s + more); len(s+more) <= 240 && (is != ok || m != l) {
				t.Fatalf("%q is read as %q, %v, with %q behind it as %q, %v", s, l, ok, more, m, is)
			}
		}
		if m, is := impl.ReadLine("  " + s + " "); is != ok || m != l {
			t.Fatalf("%q is read as %q, %v, with blanks at its ends as %q, %v", s, l, ok, m, is)
		}
	}
	if right < 5000 {
		t.Error("too few were right", right)
	}
}

func wantArgs(t *testing.T, s string, want ...string) {
	t.Helper()
	if args := impl.ArgsOf(s); !slices.Equal(args, want) {
		t.Errorf("ArgsOf(%q) = %q, want %q", s, args, want)
	}
}

func TestArgsOf(t *testing.T) {
	wantArgs(t, "")
	wantArgs(t, "a", "a")
	wantArgs(t, "a,b", "a", "b")
	wantArgs(t, ",", "", "")
	wantArgs(t, ",,", "", "", "")
	wantArgs(t, "a,,b", "a", "", "b")
	wantArgs(t, ",a", "", "a")
	wantArgs(t, "a,", "a", "")
	wantArgs(t, ",a,b,,", "", "a", "b", "", "")
	wantArgs(t, "a b,c d", "a b", "c d")
	wantArgs(t, "x:y,~,\\1,(a+b)", "x:y", "~", "\\1", "(a+b)")
	wantArgs(t, "1,2,3,4,5,6,7,8,9,10", "1", "2", "3", "4", "5", "6", "7", "8", "9", "10")
	for _, s := range []string{" ", " a", "a ", "a, b", "a ,b", "a  b", ", ", " ,", "a;b", ";", "a,;", "a\n", "\x1f", "\x7f", "a,\x80", "é"} {
		wantArgs(t, s)
	}
	long := strings.Repeat("x", 500)
	wantArgs(t, long+","+long, long, long)
}

func TestArgsOfAgainstTheModel(t *testing.T) {
	d := dice(75)
	for range 100000 {
		s := someText(&d)
		var want []string
		if s != "" && modelArgsOk(s) {
			want = strings.Split(s, ",")
		}
		wantArgs(t, s, want...)
	}
}

func TestArgsAreNewMemory(t *testing.T) {
	first, second := impl.ArgsOf("a,b,c"), impl.ArgsOf("a,b,c")
	first[0], first[2] = "x", "y"
	_ = append(first[:1], "z")
	if !slices.Equal(second, []string{"a", "b", "c"}) || !slices.Equal(impl.ArgsOf("a,b,c"), second) {
		t.Error("two answers share memory")
	}
}
