package tests

import (
	"regexp"
	"slices"
	"strconv"
	"strings"
	"testing"

	"loop.example/g00460/impl"
)

var markShape = regexp.MustCompile(`\\[1-9]`)

func modelFilled(s string, args []string) string {
	return markShape.ReplaceAllStringFunc(s, func(mark string) string {
		if k := int(mark[1] - '1'); k < len(args) {
			return args[k]
		}
		return ""
	})
}

func wantFilled(t *testing.T, s string, args []string, want string) {
	t.Helper()
	given, all, was := guarded(args, "mark")
	if text := impl.Filled(s, given); text != want {
		t.Errorf("Filled(%q, %q) = %q, want %q", s, args, text, want)
	}
	if !slices.Equal(all, was) {
		t.Errorf("Filled(%q, %q) writes into its args", s, args)
	}
}

func TestFilled(t *testing.T) {
	nine := []string{"a", "b", "c", "d", "e", "f", "g", "h", "i"}
	for _, r := range []struct {
		s    string
		args []string
		want string
	}{
		{"", nil, ""}, {"", nine, ""}, {"nop", nine, "nop"},
		{`\1`, nine, "a"}, {`\9`, nine, "i"}, {`\0`, nine, `\0`}, {`\`, nine, `\`}, {`a\`, nine, `a\`},
		{`\1\2\3\4\5\6\7\8\9`, nine, "abcdefghi"}, {`\9\1\1`, nine, "iaa"},
		{`\10`, nine, "a0"}, {`\12`, nine, "a2"}, {`\\1`, nine, `\a`}, {`\\`, nine, `\\`}, {`\\\`, nine, `\\\`}, {`\\\2`, nine, `\\b`}, {`\1\`, nine, `a\`},
		{`\a`, nine, `\a`}, {`\:`, nine, `\:`}, {`\/`, nine, `\/`}, {`\ 1`, nine, `\ 1`}, {"1", nine, "1"},
		{`x\1y\2z`, nil, "xyz"}, {`\2`, []string{"a"}, ""}, {`<\1>`, []string{""}, "<>"}, {`db \1,\2\9`, []string{"x"}, "db x,"},
		// What is filled in is not filled again, and makes no mark with what stands beside it.
		{`\1`, []string{`\2`, "b"}, `\2`}, {`\11`, []string{`\`, "b"}, `\1`}, {`\\12`, []string{"", "b"}, `\2`},
		{"\xff\\1\x00", []string{"\x80\n"}, "\xff\x80\n\x00"},
	} {
		wantFilled(t, r.s, r.args, r.want)
	}
}

func TestFilledAtItsLimits(t *testing.T) {
	wantFilled(t, strings.Repeat("x", 80), nil, strings.Repeat("x", 80))
	wantFilled(t, strings.Repeat("x", 81), nil, "")
	wantFilled(t, strings.Repeat(`\1`, 40), nil, "")
	wantFilled(t, strings.Repeat(`\1`, 40)+"x", nil, "")
	wantFilled(t, strings.Repeat(`\1`, 40), []string{"ab"}, strings.Repeat("ab", 40))
	wantFilled(t, strings.Repeat(`\1`, 40), []string{"abc"}, "")
	long, longer := strings.Repeat("x", 80), strings.Repeat("x", 81)
	wantFilled(t, `\1`, []string{long}, long)
	wantFilled(t, `\1`, []string{longer}, "")
	wantFilled(t, `a`, []string{long}, "a")
	wantFilled(t, `a`, []string{longer}, "")
	wantFilled(t, `\1`, []string{"a", longer}, "")
	wantFilled(t, `\1y`, []string{long}, "")
	wantFilled(t, `\1y`, []string{long[:79]}, long[:79]+"y")
	wantFilled(t, `\1\2`, []string{long[:40], long[:40]}, long)
	wantFilled(t, `\1\2`, []string{long[:40], long[:41]}, "")
	wantFilled(t, "a", make([]string, 9), "a")
	wantFilled(t, "a", make([]string, 10), "")
	wantFilled(t, `\1`, strings.Split("a,b,c,d,e,f,g,h,i,j", ","), "")
}

func TestFilledAgainstTheModel(t *testing.T) {
	d := dice(81)
	for range 50000 {
		s := ""
		for range d.below(12) {
			s += []string{`\`, "0", "1", "2", "5", "9", "a", ",", " ", `\1`, `\2`, `\3`, "\xff"}[d.below(13)]
		}
		var args []string
		for range d.below(11) {
			args = append(args, []string{"", "x", `\`, `\1`, "1", strings.Repeat("y", 30), strings.Repeat("z", 78+d.below(4))}[d.below(7)])
		}
		want := modelFilled(s, args)
		if len(args) > 9 || len(want) > 80 || slices.ContainsFunc(args, func(a string) bool { return len(a) > 80 }) {
			want = ""
		}
		wantFilled(t, s, args, want)
	}
}

// linesOf parts lines that are written with a stroke between two.
func linesOf(s string) []string {
	if s == "" {
		return nil
	}
	return strings.Split(s, "/")
}

func wantExpanded(t *testing.T, lines []string, want []string, code int64) {
	t.Helper()
	given, all, was := guarded(lines, "mark")
	out, c := impl.Expanded(given)
	if c != code || !slices.Equal(out, want) {
		t.Errorf("Expanded(%.300q) = %.300q, %d, want %.300q, %d", lines, out, c, want, code)
	}
	if !slices.Equal(all, was) {
		t.Errorf("Expanded(%.300q) writes into its lines", lines)
	}
}

func wantOut(t *testing.T, s string, want string) {
	t.Helper()
	wantExpanded(t, linesOf(s), linesOf(want), impl.MxOk)
}

func wantForm(t *testing.T, list ...string) {
	t.Helper()
	for _, s := range list {
		wantExpanded(t, linesOf(s), nil, impl.MxForm)
	}
}

func wantFull(t *testing.T, list ...string) {
	t.Helper()
	for _, s := range list {
		wantExpanded(t, linesOf(s), nil, impl.MxFull)
	}
}

func TestNumbersOfWhatExpandingTells(t *testing.T) {
	if impl.MxOk != 0 || impl.MxForm != 1 || impl.MxFull != 2 || impl.MaxLines != 1500 || impl.MaxDeep != 6 || impl.MaxLine != 80 {
		t.Error("another number")
	}
}

func TestPlainLinesComeOutAsTheyAre(t *testing.T) {
	wantOut(t, "", "")
	for _, line := range []string{
		"", " ", "nop", "  nop  ; c", "x: db 1 , 2", ";if 0", "x:", "\\1", "Rept 2", "REPT 2", "rept:", "if:", "endm: nop", "else:x", "repts 2", "ifs", "endif", "endrr",
		"a: b: rept 2", "rept\t2", "rept 2\n", "\xff", "nop \x80", "db \\1", "db ;endr", "if\\1 1", "macro1 m", "1: if 1",
	} {
		wantExpanded(t, []string{line}, []string{line}, impl.MxOk)
		wantExpanded(t, []string{line, "nop", line}, []string{line, "nop", line}, impl.MxOk)
		wantExpanded(t, []string{"rept 1", line, "endr"}, []string{line}, impl.MxOk)
	}
	// The text of this one would have 81 bytes, so it is no line and opens nothing.
	wantExpanded(t, []string{"x:rept " + strings.Repeat("1", 73)}, []string{"x:rept " + strings.Repeat("1", 73)}, impl.MxOk)
	wantForm(t, "x:rept "+strings.Repeat("1", 72))
}

func TestExpandedAtTheLimitsOfItsLines(t *testing.T) {
	nops := slices.Repeat([]string{"nop"}, 1500)
	wantExpanded(t, nops, nops, impl.MxOk)
	wantExpanded(t, append(slices.Clone(nops), ""), nil, impl.MxFull)
	wantExpanded(t, slices.Repeat([]string{""}, 1500), make([]string, 1500), impl.MxOk)
	long, longer := strings.Repeat("x", 80), strings.Repeat("x", 81)
	wantExpanded(t, []string{long}, []string{long}, impl.MxOk)
	wantExpanded(t, []string{"nop", longer}, nil, impl.MxForm)
	wantExpanded(t, []string{longer, "nop"}, nil, impl.MxForm)
	wantExpanded(t, []string{"if 0", "nop;" + longer, "endc"}, nil, impl.MxForm)
	// Too many lines are told ahead of one that is too long, and that ahead of all that is gone through.
	wantExpanded(t, append(slices.Clone(nops), longer), nil, impl.MxFull)
	wantExpanded(t, slices.Concat([]string{"rept 1500", "endr"}, []string{longer}), nil, impl.MxForm)
	wantExpanded(t, slices.Concat([]string{"rept 1499", "endr"}, nops[:1498]), nops[:1498], impl.MxOk)
	wantExpanded(t, slices.Concat([]string{"rept 1499", "nop", "endr", "nop"}), nops, impl.MxOk)
	wantFull(t, "rept 1499/nop/endr/nop/nop", "rept 2/rept 740/nop/endr/rept 11/nop/endr/endr")
	wantExpanded(t, slices.Concat([]string{"rept 2"}, nops[:750], []string{"endr"}), nops, impl.MxOk)
	wantExpanded(t, slices.Concat([]string{"rept 2"}, nops[:750], []string{"endr", "db"}), nil, impl.MxFull)
	wantExpanded(t, slices.Concat([]string{"rept 2"}, nops[:751], []string{"endr"}), nil, impl.MxFull)
	// Where all lines are out already, what brings out none is still right.
	wantExpanded(t, slices.Concat([]string{"rept 2"}, nops[:750], []string{"endr", "macro m", "endm", "m", "rept 0", "x", "endr", "if 0", "x", "endc"}), nops, impl.MxOk)
}

func TestRept(t *testing.T) {
	wantOut(t, "rept 0/nop/endr", "")
	wantOut(t, "rept 1/nop/endr", "nop")
	wantOut(t, "a/rept 3/b/c/endr/d", "a/b/c/b/c/b/c/d")
	wantOut(t, "rept 2/endr", "")
	wantOut(t, "rept 2/nop/rept 3/halt/endr/endr", "nop/halt/halt/halt/nop/halt/halt/halt")
	wantOut(t, "rept $2;x/a/endr ; y/  rept  %10  /b/endr z", "a/a/b/b")
	wantOut(t, "rept 1+2*3-5/a/endr", "a/a")
	wantOut(t, "rept low(258)/a/endr", "a/a")
	wantOut(t, "rept -0/a/endr", "")
	wantOut(t, "rept 1501-1501/a/endr", "")
	wantOut(t, "rept 1/x: a/endr", "x: a")
	wantForm(t, "rept/a/endr", "rept x/a/endr", "rept 1 + 1/a/endr", "rept 1,2/a/endr", "rept (1/a/endr", "rept -1/a/endr", "rept 1501/endr", "rept 65535/endr", "rept 65536/endr", "rept 1%0/endr", "rept bank(a)/endr", "rept $7FFF*65535/endr", "rept \\1/endr", "rept A/endr")
	wantExpanded(t, []string{"rept 1/0", "endr"}, nil, impl.MxForm)
	wantExpanded(t, []string{"rept 4/2", "a", "endr"}, []string{"a", "a"}, impl.MxOk)
	wantFull(t, "rept 1500/endr", "rept 1500/nop/endr", "rept 1500/nop/endr/nop")
	wantOut(t, "rept 1499/endr", "")
}

func TestIf(t *testing.T) {
	wantOut(t, "if 1/a/endc", "a")
	wantOut(t, "if 0/a/endc", "")
	wantOut(t, "if 0/a/else/b/endc", "b")
	wantOut(t, "if 1/a/else/b/endc", "a")
	wantOut(t, "if -1/a/else/b/endc", "a")
	wantOut(t, "if 65535*65535*65535/a/else/b/endc", "a")
	wantOut(t, "if 65535+1/a/else/b/endc", "a")
	wantOut(t, "if 256*256*256*256/a/else/b/endc", "b")
	wantOut(t, "if 1-1/a/else/b/endc", "b")
	wantOut(t, "if 1/endc/if 0/endc/if 1/else/endc/if 0/else/endc", "")
	wantOut(t, "x/if 1/a/b/else/c/d/endc/y", "x/a/b/y")
	wantOut(t, "x/if 0/a/b/else/c/d/endc/y", "x/c/d/y")
	wantOut(t, "if 0/a/else z ; c/b/endc z", "b")
	wantOut(t, "if 0/a/x: else/b/endc", "b")
	wantForm(t, "if/endc", "if x/endc", "if 1 1/endc", "if 1,1/endc", "if 1%0/endc", "if bank(x)/endc", "if 65536/endc", "if 0/else", "if 0+x/else/endc")
}

func TestElseWithinIfs(t *testing.T) {
	wantOut(t, "if 0/a/if 1/else/endc/else/b/endc", "b")
	for _, r := range []struct{ outer, inner, want string }{{"0", "0", "d/e"}, {"0", "1", "d/e"}, {"1", "0", "a/c/x"}, {"1", "1", "a/b/x"}} {
		wantOut(t, "if "+r.outer+"/a/if "+r.inner+"/b/else/c/endc/x/else/d/e/endc", r.want)
		wantOut(t, "if "+r.outer+"/a/if "+r.inner+"/b/else/c/endc/x/endc", strings.TrimPrefix(r.want, "d/e"))
	}
	for _, r := range []struct{ outer, inner, want string }{{"0", "0", "b/d/e"}, {"0", "1", "b/c/e"}, {"1", "0", "a"}, {"1", "1", "a"}} {
		wantOut(t, "if "+r.outer+"/a/else/b/if "+r.inner+"/c/else/d/endc/e/endc", r.want)
	}
	wantOut(t, "if 1/if 1/if 0/a/else/b/endc/else/c/endc/else/d/endc", "b")
	wantOut(t, "if 1/if 0/if 0/a/else/b/endc/else/c/endc/else/d/endc", "c")
	wantOut(t, "if 0/if 0/if 0/a/else/b/endc/else/c/endc/else/d/endc", "d")
	// The first else is the if's own; what is not gone through is not asked.
	wantOut(t, "if 1/a/else/b/else/c/endc", "a")
	wantForm(t, "if 0/a/else/b/else/c/endc")
	wantOut(t, "if 1/a/else/b/endc/if 0/c/else/d/endc", "a/d")
	wantForm(t, "else", "nop/else", "rept 1/else/endr", "if 1/rept 1/else/endr/endc", "if 0/rept 1/a/else/b/endr/else/rept 1/else/endr/endc", "macro m/else/endm/m", "if 1/endc/else", "else/if 1/endc")
	wantOut(t, "rept 0/else/endr", "")
	wantOut(t, "if 0/rept 1/a/else/b/endr/else/c/endc", "c")
	wantOut(t, "if 1/macro m/else/endm/b/else/c/endc", "b")
	wantOut(t, "if 0/macro m/else/endm/b/else/c/endc", "c")
	wantOut(t, "macro m/if \\1/a/else/b/endc/endm/m 0/m 1/if 0/else/m 0/endc", "b/a/b")
}

func TestEnds(t *testing.T) {
	for _, open := range []string{"macro m", "rept 1", "if 1", "rept 0", "if 0"} {
		wantForm(t, open, "nop/"+open, open+"/nop", "x: "+open, open+"/"+open)
		own := map[string]string{"macro": "endm", "rept": "endr", "if": "endc"}[strings.Fields(open)[0]]
		for _, end := range []string{"endm", "endr", "endc"} {
			if end == own {
				wantExpanded(t, []string{open, end}, nil, impl.MxOk)
				wantExpanded(t, []string{open, end, "nop"}, []string{"nop"}, impl.MxOk)
				wantForm(t, open+"/"+end+"/"+end, "x: "+open+"/"+end)
			} else {
				wantForm(t, open+"/"+end, open+"/"+end+"/"+own, open+"/nop/"+end)
			}
		}
	}
	wantForm(t, "endm", "endr", "endc", "x: endr", "nop/endc", "endr 1", "rept 1/endr/endr", "if 1/endr", "rept 1/endc", "macro m/endr")
	// Ends are counted, whichever they are; the last one must be its own, and so must those that are gone through.
	wantForm(t, "rept 1/if 1/endr/endc", "rept 1/if 1/endr/endr", "if 1/rept 1/endc/endc", "if 1/rept 1/endr/endr")
	wantOut(t, "rept 0/if 1/endr/endr", "")
	wantOut(t, "if 0/rept 1/endc/endc", "")
	wantOut(t, "macro m/if 1/endr/endm", "")
	wantForm(t, "macro m/if 1/endr/endm/m")
	wantOut(t, "if 1/a/else/rept x/endm/endc", "a")
	wantForm(t, "if 0/a/else/rept 1/endm/endc")
	wantOut(t, "if 0/x: rept 1/endr/x: macro m/endm/endc", "")
	wantForm(t, "if 1/x: rept 1/endr/endc", "if 1/x: macro m/endm/endc", "rept 1/x: if 1/endc/endr", "macro m/x: if 1/endc/endm/m")
	wantOut(t, "rept 1/a/x: endr", "a")
	wantOut(t, "if 1/macro m/rept 2/a/endr/endm/m/endc/m", "a/a/a/a")
	wantOut(t, "rept 2/if 1/rept 1/a/endr/else/b/endc/endr", "a/a")
}

func TestMacro(t *testing.T) {
	wantOut(t, "macro m/endm/m/m", "")
	wantOut(t, "macro m/a/b/endm/m/c/m", "a/b/c/a/b")
	wantOut(t, "macro m/db \\1,\\2/endm/m 1,2/m 3/m/m ,4/m  a  b ,  c ; d", "db 1,2/db 3,/db ,/db ,4/db a b,c")
	wantOut(t, "macro m/\\0\\\\1\\/endm/m x", "\\0\\x\\")
	wantOut(t, "macro m/ x : ld  a , \\1 ; \\1/endm/m b", " x : ld  a , b ; b")
	wantOut(t, "m 1/macro m/a/endm/m 1/m:/m: ;/mm/M", "m 1/a/m:/m: ;/mm/M")
	wantOut(t, "macro abcdefghij/a/endm/abcdefghij", "a")
	wantForm(t, "macro abcdefghijk/endm", "macro/endm", "macro m1/endm", "macro M/endm", "macro a,b/endm", "macro a b/endm", "macro ./endm", "macro m:/endm", "macro \\1/endm", "macro ,/endm", "macro m/endm/macro m/endm", "macro m/endm/if 1/macro m/endm/endc", "rept 2/macro m/endm/endr", "macro m/macro n/endm/endm/m/m")
	wantOut(t, "if 0/macro m/a/endm/endc/macro m/b/endm/m", "b")
	wantOut(t, "rept 0/macro m/a/endm/endr/m", "m")
	wantOut(t, "rept 1/macro m/a/endm/endr/m", "a")
	// A name that is an op of a processor can be taken; those of blocks are read as such first.
	wantOut(t, "nop/macro nop/halt/endm/nop", "nop/halt")
	wantOut(t, "macro rept/a/endm/rept 2/b/endr", "b/b")
	wantForm(t, "macro else/a/endm/else", "macro endm/a/endm/endm", "macro macro/a/endm/macro")
	wantForm(t, "macro m/endm/x: m", "macro m/endm/x: m 1", "macro m/a/endm/m/x: m")
	wantOut(t, "macro m/\\9\\1/endm/m a,b,c,d,e,f,g,h,i", "ia")
	wantForm(t, "macro m/\\9/endm/m a,b,c,d,e,f,g,h,i,j", "macro m/endm/m ,,,,,,,,,")
	wantOut(t, "macro m/endm/m ,,,,,,,,", "")
}

func TestMacrosInMacros(t *testing.T) {
	wantOut(t, "macro m/a \\1/endm/macro n/m \\2/m \\1/endm/n x,y", "a y/a x")
	wantOut(t, "macro n/m \\1/endm/n 1/macro m/a \\1/endm/n 2", "m 1/a 2")
	wantOut(t, "macro m/macro \\1/db \\2/endm/endm/m one,1/m two,2/one/two/one", "db 1/db 2/db 1")
	wantOut(t, "macro m/macro n/db \\1/endm/endm/m 5/n 6", "db 5")
	wantOut(t, "macro m/rept \\1/a/endr/if \\2/b/else/c/endc/endm/m 2,0/m 0,1", "a/a/c/b")
	// A block may come of what is filled in, but its end stands in the same block.
	wantOut(t, "macro m/\\1 2/a/\\2/endm/m rept,endr/m if,endc", "a/a/a")
	wantForm(t, "macro m/\\1 2/a/endm/m rept/endr", "macro m/a/\\1/endm/rept 1/m endr", "macro m/\\1/endm/if 0/m else/endc/m else")
	wantFull(t, "macro m/m/endm/m", "macro m/n/endm/macro n/m/endm/m", "macro m/a/m/endm/m", "macro m/rept 1/m/endr/endm/m")
	wantOut(t, "macro m/m/endm", "")
}

// repeated has a line so many times, with a stroke between two.
func repeated(line string, n int) string {
	return strings.TrimSuffix(strings.Repeat(line+"/", n), "/")
}

func TestLinesThatAreTooLongOnceFilled(t *testing.T) {
	long := strings.Repeat("x", 70)
	wantOut(t, "macro m/db \\1/endm/m "+long, "db "+long)
	wantOut(t, "macro m/db \\11234567/endm/m "+long, "db "+long+"1234567")
	wantFull(t, "macro m/db \\112345678/endm/m "+long)
	wantOut(t, "macro m/"+strings.Repeat("\\1", 40)+"/endm/m ab/m", strings.Repeat("ab", 40)+"/")
	wantFull(t, "macro m/"+strings.Repeat("\\1", 40)+"/endm/m abc")
	// All lines are filled first, and those that would not be gone through, too.
	wantFull(t, "macro m/if 0/db \\1\\1/endc/endm/m "+long, "macro m/\\2/db \\1\\1/endm/m "+long[:60]+",endr", "macro m/db ;\\1\\1/endm/m "+long)
	wantForm(t, "macro m/db \\1\\1/endm/x: m "+strings.Repeat("x", 60), "endr/macro m/db \\1\\1/endm/m "+long)
	wantOut(t, "macro m/db \\1\\1/endm", "")
}

func TestHowDeepBlocksStand(t *testing.T) {
	shapes := []struct{ open, end string }{{"rept 1", "endr"}, {"if 1", "endc"}, {"if 0/else", "endc"}, {"if -1", "else/x/endc"}}
	for _, a := range shapes {
		for _, b := range shapes {
			for k := range 9 {
				s := "nop"
				for n := range k {
					if n%2 == 0 {
						s = a.open + "/" + s + "/" + a.end
					} else {
						s = b.open + "/" + s + "/" + b.end
					}
				}
				if k < 6 {
					wantOut(t, s, "nop")
				} else {
					wantFull(t, s)
				}
			}
		}
	}
	five := func(s string) string { return repeated("if 1", 5) + "/" + s + "/" + repeated("endc", 5) }
	wantFull(t, five("if 1/endc"), five("rept 1/endr"), five("macro m/endm/m"), five("a/if 0/else/endc"))
	wantOut(t, five("rept 0/if 1/if 1/endc/endc/endr/macro m/if 1/rept 1/endr/endc/endm"), "")
	wantOut(t, five("macro m/a/endm")+"/m", "a")
	wantForm(t, five("x: if 1/endc"), five("macro m/endm/x: m"), five("rept x/endr"), five("endr"))
	// One call in another, each of them a block in that of all lines.
	calls := "macro a/nop/endm/macro b/a/endm/macro c/b/endm/macro d/c/endm/macro e/d/endm/macro f/e/endm/"
	wantOut(t, calls+"e", "nop")
	wantFull(t, calls+"f", calls+"rept 1/e/endr", calls+"if 1/e/endc")
	wantOut(t, calls+"if 1/d/endc", "nop")
}

func TestHowManyBlocksAreGoneThrough(t *testing.T) {
	wantOut(t, "rept 1499/endr", "")
	wantFull(t, "rept 1500/endr", "rept 1499/endr/if 1/endc", "if 1/endc/rept 1499/endr", "rept 1499/endr/macro m/endm/m")
	wantOut(t, "rept 1498/endr/if 1/endc", "")
	wantOut(t, "rept 1498/endr/macro m/endm/m", "")
	wantOut(t, "rept 1499/endr/rept 0/endr/macro m/endm/nop", "nop")
	// 36 blocks, each with 40 in it, 23 more, and the one of all lines.
	wantOut(t, "rept 36/rept 40/endr/endr/rept 23/endr", "")
	wantFull(t, "rept 36/rept 40/endr/endr/rept 24/endr")
	wantOut(t, "macro m/rept 2/endr/endm/rept 374/m/endr/rept 3/endr", "")
	wantFull(t, "macro m/rept 2/endr/endm/rept 374/m/endr/rept 4/endr")
	wantOut(t, "rept 749/if 1/else/a/endc/endr/if 0/else/endc", "")
	wantFull(t, "rept 749/if 1/else/a/endc/endr/if 0/else/endc/if 1/endc")
	// The first thing that is not as told is what is told.
	wantFull(t, "rept 1500/endr/endr", "rept 1500/nop/endr/x: if 1")
	wantForm(t, "endr/rept 1500/endr", "rept 1500/endc", "rept 1500/if 1/else/else/endr")
}

// modelFrame is a block that is gone through, and how often it will be.
type modelFrame struct {
	lines []string
	at    int
	left  int64
}

// modelExpansion goes through frames, one line at a time, with none calling another.
type modelExpansion struct {
	macros map[string][]string
	frames []modelFrame
	blocks int
	out    []string
}

func modelOp(s string) (impl.Line, int) {
	l, _ := modelReadLine(s)
	switch l.Op {
	case "macro", "rept", "if":
		return l, 1
	case "endm", "endr", "endc":
		return l, 2
	case "else":
		return l, 3
	}
	return l, 0
}

// modelSkip tells the place of the end, block within block, and the elses on the way that are in none of them.
func modelSkip(lines []string, at int) (end int, elses []int, ok bool) {
	for k := at + 1; k < len(lines); k++ {
		switch _, kind := modelOp(lines[k]); kind {
		case 1:
			if k, _, ok = modelSkip(lines, k); !ok {
				return 0, nil, false
			}
		case 2:
			return k, elses, true
		case 3:
			elses = append(elses, k)
		}
	}
	return 0, nil, false
}

func (x *modelExpansion) enter(lines []string, times int64) int64 {
	if times == 0 {
		return 0
	}
	x.frames = append(x.frames, modelFrame{lines, 0, times})
	return x.begin()
}

// begin has the last frame gone through once more, from its first line on.
func (x *modelExpansion) begin() int64 {
	f := &x.frames[len(x.frames)-1]
	f.at = 0
	f.left--
	x.blocks++
	if len(x.frames) > 6 || x.blocks > 1500 {
		return 2
	}
	return 0
}

func (x *modelExpansion) block(lines []string, at int) (int, int64) {
	l, _ := modelOp(lines[at])
	end, elses, ok := modelSkip(lines, at)
	if !ok || l.Label != "" {
		return 0, 1
	}
	if e, _ := modelOp(lines[end]); e.Op != map[string]string{"macro": "endm", "rept": "endr", "if": "endc"}[l.Op] {
		return 0, 1
	}
	body := lines[at+1 : end]
	if l.Op == "macro" {
		if _, there := x.macros[l.Args]; there || !opShape.MatchString(l.Args) || l.Args == "" {
			return 0, 1
		}
		x.macros[l.Args] = body
		return end + 1, 0
	}
	e, _ := impl.Compiled(l.Args)
	n, code := impl.EvalExpr(e, nil)
	if code != 0 || l.Op == "rept" && (n < 0 || n > 1500) {
		return 0, 1
	}
	if l.Op == "rept" {
		return end + 1, x.enter(body, n)
	}
	elses = append(elses, end)
	if n == 0 {
		return end + 1, x.enter(lines[min(elses[0]+1, end):end], 1)
	}
	return end + 1, x.enter(lines[at+1:elses[0]], 1)
}

func (x *modelExpansion) call(l impl.Line) int64 {
	var args []string
	if l.Args != "" {
		args = strings.Split(l.Args, ",")
	}
	if l.Label != "" || len(args) > 9 {
		return 1
	}
	var lines []string
	for _, s := range x.macros[l.Op] {
		lines = append(lines, modelFilled(s, args))
		if len(lines[len(lines)-1]) > 80 {
			return 2
		}
	}
	return x.enter(lines, 1)
}

func (x *modelExpansion) line(lines []string, at int) (int, int64) {
	l, kind := modelOp(lines[at])
	switch kind {
	case 1:
		return x.block(lines, at)
	case 2, 3:
		return 0, 1
	}
	if _, ok := x.macros[l.Op]; ok {
		return at + 1, x.call(l)
	}
	if len(x.out) == 1500 {
		return 0, 2
	}
	x.out = append(x.out, lines[at])
	return at + 1, 0
}

func (x *modelExpansion) step() int64 {
	top := len(x.frames) - 1
	f := x.frames[top]
	if f.at < len(f.lines) {
		next, code := x.line(f.lines, f.at)
		x.frames[top].at = next
		return code
	}
	if f.left > 0 {
		return x.begin()
	}
	x.frames = x.frames[:top]
	return 0
}

func modelExpanded(lines []string) ([]string, int64) {
	x := modelExpansion{macros: map[string][]string{}}
	x.enter(lines, 1)
	for len(x.frames) > 0 {
		if code := x.step(); code != 0 {
			return nil, code
		}
	}
	return x.out, 0
}

func someOf(d *dice, list ...string) string { return list[d.below(len(list))] }

// someSource has blocks in blocks; macros stand in it only where they may.
func someSource(d *dice, deep int, macros bool) []string {
	var lines []string
	for range d.below(5) {
		var piece []string
		kind := d.below(9)
		if deep == 0 || !macros && kind >= 7 {
			kind %= 3
		}
		switch kind {
		case 0, 1, 2:
			piece = []string{someOf(d, "nop", "x: db 1", "", "; c", "db \\1", "a \\2,\\1", "Halt", " ld a , b ; c")}
		case 3, 4:
			piece = slices.Concat([]string{"rept " + someOf(d, "0", "1", "2", "3", "1+1", "2*6", "40")}, someSource(d, deep-1, macros), []string{"endr"})
		case 5:
			piece = slices.Concat([]string{"if " + someOf(d, "0", "1", "-1", "2-2")}, someSource(d, deep-1, macros), []string{"endc"})
		case 6:
			piece = slices.Concat([]string{"if " + someOf(d, "0", "1", "-1", "2-2")}, someSource(d, deep-1, macros), []string{"else"}, someSource(d, deep-1, macros), []string{"endc"})
		case 7:
			piece = slices.Concat([]string{"macro " + someOf(d, "m", "n", "o", "p", "q")}, someSource(d, deep-1, macros), []string{"endm"})
		case 8:
			piece = []string{someOf(d, "m", "n", "o", "p", "q") + someOf(d, "", " 1", " 1,2", " ,a", " x  y,1 ; c", " if,3", " \\1")}
		}
		lines = append(lines, piece...)
	}
	return lines
}

// spoiled has one line less, more, or another one, now and then.
func spoiled(d *dice, lines []string) []string {
	if len(lines) == 0 {
		return lines
	}
	at := d.below(len(lines))
	other := someOf(d, "endr", "endc", "endm", "else", "if 1", "if \\2", "rept 2", "rept \\1", "rept x", "rept 1501", "macro r", "macro m", "\\1 1", "m 1,2,3,4,5,6,7,8,9,10")
	switch d.below(8) {
	case 0:
		return slices.Delete(lines, at, at+1)
	case 1:
		return slices.Insert(lines, at, other)
	case 2:
		lines[at] = other
	case 3:
		lines[at] = "y:" + lines[at]
	}
	return lines
}

func TestExpandedAgainstTheModel(t *testing.T) {
	d := dice(82)
	var told [3]int
	for range 15000 {
		lines := spoiled(&d, someSource(&d, 1+d.below(7), true))
		want, code := modelExpanded(lines)
		wantExpanded(t, lines, want, code)
		told[code]++
		if t.Failed() {
			t.FailNow()
		}
	}
	for code, n := range told {
		if n < 200 {
			t.Error("too few told", code, n)
		}
	}
}

// P8: what comes out of expanding is plain, and comes out again as it is.
func TestWhatComesOutIsPlain(t *testing.T) {
	d := dice(83)
	asked := 0
	for range 20000 {
		out, code := impl.Expanded(spoiled(&d, someSource(&d, 1+d.below(5), true)))
		if code != impl.MxOk {
			continue
		}
		asked++
		for _, line := range out {
			if l, _ := impl.ReadLine(line); slices.Contains([]string{"macro", "rept", "if", "endm", "endr", "endc", "else"}, l.Op) {
				t.Fatalf("%q comes out", line)
			}
		}
		wantExpanded(t, out, out, impl.MxOk)
	}
	if asked < 5000 {
		t.Error("too few were asked", asked)
	}
}

// P8: so many times some lines are these lines so many times, unless it is too much.
func TestSoManyTimesSomeLines(t *testing.T) {
	for _, k := range []int{0, 1, 2, 3, 10, 100, 750, 1498} {
		var lines []string
		for n := range k {
			lines = append(lines, "db "+strconv.Itoa(n))
		}
		for _, n := range []int{0, 1, 2, 3, 15, 16, 150, 151, 499, 500, 501, 750, 751, 1499, 1500} {
			source := slices.Concat([]string{"rept " + strconv.Itoa(n)}, lines, []string{"endr"})
			if n*k > 1500 || n > 1499 {
				wantExpanded(t, source, nil, impl.MxFull)
			} else {
				wantExpanded(t, source, slices.Repeat(lines, n), impl.MxOk)
			}
		}
	}
	d := dice(84)
	asked := 0
	for range 5000 {
		lines := someSource(&d, 1+d.below(4), false)
		out, code := impl.Expanded(lines)
		n := d.below(6)
		many, manyCode := impl.Expanded(slices.Concat([]string{"rept " + strconv.Itoa(n)}, lines, []string{"endr"}))
		if code != impl.MxOk || manyCode == impl.MxFull {
			continue
		}
		asked++
		if manyCode != impl.MxOk || !slices.Equal(many, slices.Repeat(out, n)) {
			t.Fatalf("%d times %q: %q, %d", n, lines, many, manyCode)
		}
	}
	if asked < 2000 {
		t.Error("too few were asked", asked)
	}
}

// P8: a macro that is called is its lines, filled.
func TestACalledMacroIsItsLinesFilled(t *testing.T) {
	d := dice(85)
	for range 10000 {
		var lines, args, want []string
		for range d.below(6) {
			lines = append(lines, someOf(&d, "nop", "", "db \\1", "a \\2,\\1 ; \\3", "\\9\\8\\0", "\\\\4", "x: ld \\5 , \\6\\7"))
		}
		for range d.below(10) {
			args = append(args, someOf(&d, "", "1", "a+b", "x y", "\\1", "$C000", ":"))
		}
		for _, line := range lines {
			want = append(want, impl.Filled(line, args))
		}
		call := strings.TrimSuffix("m "+strings.Join(args, ","), " ")
		// With a colon next to it m would be a Label.
		if strings.HasPrefix(call, "m :") {
			continue
		}
		wantExpanded(t, slices.Concat([]string{"macro m"}, lines, []string{"endm", call}), want, impl.MxOk)
		if t.Failed() {
			t.FailNow()
		}
	}
}

func TestExpandedEndsWhateverItIsGiven(t *testing.T) {
	many := slices.Concat([]string{"rept 1499"}, slices.Repeat([]string{"rept 0+0+0+0+0+0+0+0+0+0+0+0+0+0+0", "endr"}, 748), []string{"endr"})
	wantExpanded(t, many, nil, impl.MxOk)
	calls := slices.Concat([]string{"macro m"}, slices.Repeat([]string{"rept \\1*\\2+\\3", "endr"}, 746), []string{"endm", "rept 749", "m 0,0,0", "endr"})
	wantExpanded(t, calls, nil, impl.MxOk)
	wantExpanded(t, slices.Repeat([]string{"if 1"}, 1500), nil, impl.MxForm)
	wantExpanded(t, slices.Concat(slices.Repeat([]string{"if 1"}, 750), slices.Repeat([]string{"endc"}, 750)), nil, impl.MxFull)
}

func TestWhatComesOutIsNewMemory(t *testing.T) {
	lines, all, was := guarded([]string{"nop", "macro m", "a", "endm", "m", "halt"}, "mark")
	first, _ := impl.Expanded(lines)
	second, _ := impl.Expanded(lines)
	for k := range first {
		first[k] = "other"
	}
	_ = append(first, "more")
	third, _ := impl.Expanded(lines)
	if !slices.Equal(all, was) || !slices.Equal(second, []string{"nop", "a", "halt"}) || !slices.Equal(third, second) {
		t.Error("an answer shares memory", all, second, third)
	}
}
