package tests

import (
	"fmt"
	"regexp"
	"slices"
	"strings"
	"sync"
	"testing"

	"loop.example/g00460/impl"
)

// modelScript goes by the forms of lines, and by the models of what they ask.
type modelScript struct {
	source  string
	object  impl.Object
	rom     string
	syms    []impl.Sym
	machine impl.Machine
}

var scriptForms = []struct {
	form *regexp.Regexp
	says func(s *modelScript, word string, n int64) string
}{
	{regexp.MustCompile(`^ *clear *$`), (*modelScript).cleared},
	{regexp.MustCompile(`^ *asm *$`), (*modelScript).assembled},
	{regexp.MustCompile(`^ *link *$`), (*modelScript).linked},
	{regexp.MustCompile(`^ *sym +([^ ]+) *$`), (*modelScript).symbol},
	{regexp.MustCompile(`^ *out *$`), (*modelScript).told},
	{regexp.MustCompile(`^ *byte +(\$[0-9A-F]+|%[01]+|[0-9]+) *$`), (*modelScript).read},
	{regexp.MustCompile(`^ *run +(\$[0-9A-F]+|%[01]+|[0-9]+) *$`), (*modelScript).ran},
	{regexp.MustCompile(`^ *trace +(\$[0-9A-F]+|%[01]+|[0-9]+) *$`), (*modelScript).traced},
	{regexp.MustCompile(`^ *list +(\$[0-9A-F]+|%[01]+|[0-9]+) *$`), (*modelScript).listed},
}

func (s *modelScript) cleared(string, int64) string {
	s.source = ""
	return "ok"
}

func (s *modelScript) assembled(string, int64) string {
	o, code, line := modelAssembled(s.source)
	if code != 0 {
		return fmt.Sprint("no ", code, line)
	}
	s.object = o
	return fmt.Sprintf("ok %d %d", len(o.Sections), len(o.Syms))
}

func (s *modelScript) linked(string, int64) string {
	rom, syms, code := modelLinked(objects{s.object})
	if code != 0 {
		return fmt.Sprint("no ", code)
	}
	s.rom, s.syms = rom, syms
	s.machine = impl.Machine{
		Cpu:  impl.Cpu{Sp: 65534},
		Cart: impl.Cart{Rom: rom, Kind: 2, Bank: 1, Ram: string(make([]byte, 256))},
		Work: string(make([]byte, 256)), High: string(make([]byte, 127)),
	}
	return fmt.Sprint("ok ", len(rom)/256)
}

func (s *modelScript) symbol(word string, _ int64) string {
	for _, x := range s.syms {
		if x.Name == word {
			return fmt.Sprint(x.Bank, x.Value)
		}
	}
	return "no"
}

func (s *modelScript) told(string, int64) string {
	if s.rom == "" {
		return "what"
	}
	return strings.TrimRight("out "+strings.Trim(fmt.Sprint(s.machine.Out), "[]"), " ")
}

func (s *modelScript) read(_ string, n int64) string {
	if s.rom == "" {
		return "what"
	}
	return fmt.Sprint(modelMachineOf(s.machine).read(uint16(n)))
}

func (s *modelScript) ran(_ string, n int64) string {
	if s.rom == "" {
		return "what"
	}
	m, code, steps := modelRunTo(s.machine, nil, n)
	if code == 3 {
		return "no"
	}
	s.machine = m
	return fmt.Sprint(code, steps, m.Cpu.A, m.Cycles)
}

func (s *modelScript) traced(_ string, n int64) string {
	if s.rom == "" || n > 8 {
		return "what"
	}
	return strings.Join(append([]string{"trace"}, modelTrace(s.machine, n)...), " / ")
}

func (s *modelScript) listed(_ string, n int64) string {
	if s.rom == "" {
		return "what"
	}
	lines, ok := modelListed(s.rom, n)
	if !ok {
		return "no"
	}
	return strings.Join(append([]string{"list"}, lines[:min(8, len(lines))]...), " / ")
}

func (s *modelScript) line(line string) string {
	if strings.HasPrefix(line, "- ") {
		s.source += line[2:] + "\n"
		return "ok"
	}
	for _, f := range scriptForms {
		found := f.form.FindStringSubmatch(line)
		if found == nil {
			continue
		}
		word, n := "", int64(0)
		if len(found) > 1 {
			word = found[1]
		}
		if len(found) > 1 && !strings.Contains(line, "sym") {
			var ok bool
			if n, ok = impl.ReadNum(word); !ok {
				return "what"
			}
		}
		return f.says(s, word, n)
	}
	return "what"
}

var blankLine = regexp.MustCompile(`^ *$`)

func modelRunScript(text string) (said string) {
	lines := strings.SplitAfter(text, "\n")
	if len(lines) > 41 || lines[len(lines)-1] != "" || len(text) > 4000 {
		return "too long\n"
	}
	s := &modelScript{}
	for _, line := range lines[:len(lines)-1] {
		if line = strings.TrimSuffix(line, "\n"); !blankLine.MatchString(line) {
			said += s.line(line) + "\n"
		}
	}
	return said
}

// saysOf asks for what the model says, twice.
func saysOf(t *testing.T, text string) string {
	t.Helper()
	was := strings.Clone(text)
	want := modelRunScript(text)
	for range 2 {
		if got := impl.RunScript(text); got != want {
			t.Fatalf("RunScript(%q) = %q, want %q", text, got, want)
		}
	}
	if text != was {
		t.Fatalf("RunScript(%q): the argument was written into", text)
	}
	return want
}

// wantSays takes a script and what it says, both written with a bar between two lines.
func wantSays(t *testing.T, lines, want string) {
	t.Helper()
	if got := saysOf(t, sourceOf(lines)); got != sourceOf(want) {
		t.Errorf("%q says %q, want %q", lines, got, sourceOf(want))
	}
}

const (
	small     = "- section m,rom0,0|- one: ld a,7|- ldh [1],a|- halt|- export one|asm|link"
	smallSays = "ok|ok|ok|ok|ok|ok 1 1|ok 2"
)

// wantBehind asks for what lines say behind those of small, with a machine.
func wantBehind(t *testing.T, lines, want string) {
	t.Helper()
	wantSays(t, small+"|"+lines, smallSays+"|"+want)
}

func TestNumbersOfScripts(t *testing.T) {
	if impl.MaxScript != 40 || impl.MaxText != 4000 {
		t.Error("another number")
	}
}

func TestScriptsThatSayNothing(t *testing.T) {
	for _, text := range []string{"", "\n", "\n\n\n", " \n", "    \n", "\n  \n \n\n", strings.Repeat("\n", 40), strings.Repeat(" \n", 40), strings.Repeat(" ", 3999) + "\n"} {
		if got := saysOf(t, text); got != "" {
			t.Errorf("%q says %q", text, got)
		}
	}
	wantSays(t, "|clear|  ||clear| ", "ok|ok")
	// No other byte is a blank.
	for _, line := range []string{"\t", "\r", "\v", "\x00", "\u00a0", "\u2003", "\xff", " \t ", "clear\t", "\tclear", "clear\r", "clear\u00a0", "sym\tx", "out\x00"} {
		wantSays(t, line, "what")
	}
}

func TestHowManyLines(t *testing.T) {
	for _, line := range []string{"\n", "clear\n", "  \n", "- \n", "- nop\n", "fly\n", "asm\n"} {
		for _, n := range []int{39, 40, 41, 42, 100} {
			got := saysOf(t, strings.Repeat(line, n))
			if (got == "too long\n") != (n > 40) {
				t.Errorf("%d times %q says %.40q", n, line, got)
			}
			if n <= 40 && strings.TrimSpace(line) != "" && strings.Count(got, "\n") != n {
				t.Errorf("%d times %q says %d lines", n, line, strings.Count(got, "\n"))
			}
		}
	}
	// Lines that say nothing count, too.
	if got := saysOf(t, "clear\n"+strings.Repeat("\n", 39)); got != "ok\n" {
		t.Error(got)
	}
	if got := saysOf(t, "clear\n"+strings.Repeat("\n", 40)); got != "too long\n" {
		t.Error(got)
	}
	if got := saysOf(t, strings.Repeat("\n", 39)+"fly\n"); got != "what\n" {
		t.Error(got)
	}
}

func TestHowManyBytes(t *testing.T) {
	for _, n := range []int{3998, 3999, 4000, 4001, 4002, 5000, 100000} {
		want := func(said string) string {
			if n > 4000 {
				return "too long\n"
			}
			return said
		}
		for text, said := range map[string]string{
			strings.Repeat(" ", n-1) + "\n":                    "",
			"clear" + strings.Repeat(" ", n-6) + "\n":          "ok\n",
			strings.Repeat(" ", n-6) + "clear\n":               "ok\n",
			"- " + strings.Repeat("x", n-3) + "\n":             "ok\n",
			strings.Repeat("x", n-1) + "\n":                    "what\n",
			"sym " + strings.Repeat("x", n-9) + "\nasm\n":      "no\nok 0 0\n",
			"asm\n- ;" + strings.Repeat(" ", n-12) + "\nasm\n": "ok 0 0\nok\nno 6 0\n",
			"link\nbyte " + strings.Repeat("0", n-11) + "\n":   "ok 2\nwhat\n",
		} {
			if len(text) != n {
				t.Fatal(len(text), n)
			}
			if got := saysOf(t, text); got != want(said) {
				t.Errorf("%.40q of %d bytes says %q", text, n, got)
			}
		}
	}
}

func TestLastLinesThatAreNotEnded(t *testing.T) {
	for _, text := range []string{"asm", " ", "x", "-", "- ", "clear\nasm", "clear\n ", "\n-", "clear\nclear\n- nop", "\n\n\n.", "clear\r", "\x00"} {
		if got := saysOf(t, text); got != "too long\n" {
			t.Errorf("%q says %q", text, got)
		}
		if got := saysOf(t, text+"\n"); got == "too long\n" {
			t.Errorf("%q, ended, says %q", text, got)
		}
	}
}

// wordsAlone are the lines that have one word, and whether they want a machine.
var wordsAlone = map[string]bool{"clear": false, "asm": false, "link": false, "out": true}

func TestLinesWithOtherWords(t *testing.T) {
	for word := range wordsAlone {
		for _, more := range []string{"x", "1", "0", "-", "x y", word, "$"} {
			wantSays(t, word+" "+more, "what")
			wantBehind(t, word+" "+more, "what")
		}
	}
	for _, word := range []string{"byte", "run", "trace", "list"} {
		for _, args := range []string{"", "0 0", "1 2", "0 x", "x", "one", "-1", "- 1", "+1", "1.", "0x1", "$", "%", "$ 1", "$g", "$ff", "$1G", "%2", "%012", "1a", "65536", "70000", "99999", "$10000", "%10000000000000000", "4294967296", "18446744073709551616", "0000000000000000000", "1,", "1;", "\xff", "1\t", "#1", "'1'"} {
			wantSays(t, word+" "+args, "what")
			wantBehind(t, word+" "+args, "what")
		}
	}
	for _, args := range []string{"", "one two", "one one", "one 1", "one ; x", "one - "} {
		wantSays(t, "sym "+args, "what")
		wantBehind(t, "sym "+args, "what")
	}
	for _, line := range []string{"fly", "Clear", "ASM", "cle ar", "clearx", "xclear", "as", "asmlink", "a s m", "clear;", "; clear", ".", "0", "1 byte", "what", "ok", "no", "too long", "bytes 0", "byte0", "run1", "help", "quit", "-clear", "--", "\xff\xfe", "\xffclear"} {
		wantSays(t, line, "what")
		wantBehind(t, line, "what")
	}
	// What is not understood changes nothing.
	wantBehind(t, "run 1 1|clear x|link x|asm x|run|sym one|run 1|out x|asm", "what|what|what|what|what|0 0|0 1 7 2|what|ok 1 1")
}

func TestBlanksOfLines(t *testing.T) {
	for _, line := range []string{"clear", "asm", "link", "sym one", "sym two", "byte 1", "run 2", "out", "trace 2", "list 0", "list 9", "fly", "run 501"} {
		plain := saysOf(t, sourceOf(small+"|"+line))
		words := strings.Fields(line)
		for _, ahead := range []string{"", " ", "   "} {
			for _, between := range []string{" ", "  ", "      "} {
				for _, behind := range []string{"", " ", "   "} {
					text := ahead + strings.Join(words, between) + behind
					if got := saysOf(t, sourceOf(small+"|"+text)); got != plain {
						t.Errorf("%q says %q, want %q", text, got, plain)
					}
				}
			}
		}
	}
}

func TestNumbersInLines(t *testing.T) {
	for _, n := range []string{"1", "01", "000000000000000001", "$1", "$01", "%1", "%00001"} {
		wantBehind(t, "byte "+n, "7")
		wantBehind(t, "run "+n, "0 1 7 2")
		wantBehind(t, "trace "+n, "trace / 00:0000 ld a,$07")
		wantBehind(t, "list "+n, "list / ds 256")
	}
	wantBehind(t, "byte 0|byte $4|byte %100|byte 65535|byte $FFFF|byte 49152|byte $A000", "62|118|118|255|255|0|255")
}

func TestLinesOfTheSource(t *testing.T) {
	for _, line := range []string{"-", "-x", "-nop", "--", "-- x", "-\tx", "-\u00a0x", " - x", " -", "  -  x", " - "} {
		wantSays(t, line+"|asm", "what|ok 0 0")
	}
	// Nothing behind it is an empty line, which counts.
	wantSays(t, "- |asm", "ok|ok 0 0")
	wantSays(t, "- |-  |- fly|asm", "ok|ok|ok|no 1 3")
	// A line with blanks behind the mark is no line of blanks alone, and it is put there as it stands.
	wantSays(t, "-"+strings.Repeat(" ", 81)+"|asm", "ok|ok 0 0")
	wantSays(t, "-"+strings.Repeat(" ", 82)+"|asm", "ok|no 6 0")
	wantSays(t, "- "+strings.Repeat("x", 80)+"|asm", "ok|no 1 1")
	wantSays(t, "- "+strings.Repeat("x", 81)+"|asm", "ok|no 6 0")
	wantSays(t, "- x"+strings.Repeat(" ", 80)+"|asm", "ok|no 6 0")
	// It may be anything, also what else would be a line of the script.
	wantSays(t, "- asm|- clear|- - x|asm", "ok|ok|ok|no 1 1")
	wantSays(t, "- section a,rom0|- ; -|-   x:   |-   db   1 , 2|- \x00;|asm|- \xff|asm", "ok|ok|ok|ok|ok|no 1 5|ok|no 1 5")
	wantSays(t, "- section a,rom0|-  x: db 1,x ; y|asm|link|sym x|byte 0", "ok|ok|ok 1 1|ok 2|no|1")
	// Lines are put behind all that there are, whatever was asked between.
	wantSays(t, "- section a,rom0|asm|- x:|asm|fly|- y:|link|asm", "ok|ok 1 0|ok|ok 1 1|what|ok|ok 2|ok 1 2")
}

func TestLinesThatWantAMachine(t *testing.T) {
	asks := "byte 0|run 0|run 1|run 501|out|trace 0|trace 8|list 0|list 99"
	none := strings.TrimSuffix(strings.Repeat("what|", 9), "|")
	wantSays(t, asks, none)
	// An object is no machine, nor is what is not linked.
	wantSays(t, "asm|"+asks, "ok 0 0|"+none)
	wantSays(t, "- section a,rom0|- dw x|asm|link|"+asks, "ok|ok|ok 1 0|no 4|"+none)
	wantSays(t, "link|"+asks, "ok 2|0|0 0 0 0|0 1 0 1|no|out|trace|trace / 00:0001 nop / 00:0002 nop / 00:0003 nop / 00:0004 nop / 00:0005 nop / 00:0006 nop / 00:0007 nop / 00:0008 nop|list / ds 256|no")
	wantBehind(t, asks, "62|0 0 0 0|0 1 7 2|no|out|trace|trace / 00:0002 ldh [$01],a / 00:0004 halt|list / ld a,$07 / ldh [$01],a / halt / ds 251|no")
	// A symbol is asked for also without one.
	wantSays(t, "sym x|sym|asm|sym x|link|sym x", "no|what|ok 0 0|no|ok 2|no")
}

func TestSymbolsOfScripts(t *testing.T) {
	source := "- section a,romx,300,3|- x: ds 4|- .l:|- y: nop|- def k,-5|- def j,70*1000|- section w,work|- v: ds 1|"
	said := strings.Repeat("ok|", 8)
	wantSays(t, source+"- export x|- export x.l|- export k|- export j|- export v|asm|link|sym x|sym x.l|sym y|sym k|sym j|sym v|sym .l|sym X|sym 1|sym -|sym \xff", said+"ok|ok|ok|ok|ok|ok 2 6|ok 4|3 300|3 304|no|0 -5|0 70000|0 49152|no|no|no|no|no")
	// They are those of what was linked last, not of what was assembled.
	wantSays(t, "- section a,rom0|- x: nop|- export x|asm|sym x|link|sym x|clear|asm|sym x|link|sym x", "ok|ok|ok|ok 1 1|no|ok 2|0 0|ok|ok 0 0|0 0|ok 2|no")
}

func TestAsmThatSaysNo(t *testing.T) {
	// The object that was there stays.
	wantBehind(t, "- fly|asm|link|byte 1|sym one", "ok|no 1 6|ok 2|7|0 0")
	wantBehind(t, "- one: nop|asm|link|list 0", "ok|no 3 6|ok 2|list / ld a,$07 / ldh [$01],a / halt / ds 251")
	wantBehind(t, "clear|- nop|asm|link|byte 1|clear|asm|link|byte 1", "ok|ok|no 2 1|ok 2|7|ok|ok 0 0|ok 2|0")
	for says, source := range map[string]string{
		"no 1 1": "- fly", "no 2 1": "- nop", "no 3 2": "- def k,1|- def k,1", "no 4 1": "- export x", "no 5 3": "- section a,rom0,255|- db 1|- db 1", "no 6 0": "- endm", "no 1 2": "- def k,1|- def",
	} {
		oks := strings.Repeat("ok|", strings.Count(source, "|")+1)
		wantSays(t, source+"|asm|link", oks+says+"|ok 2")
		wantBehind(t, "clear|"+source+"|asm|link|byte 1", "ok|"+oks+says+"|ok 2|7")
	}
	wantSays(t, "asm|asm", "ok 0 0|ok 0 0")
	wantSays(t, "- rept 300|- nop|- endr|asm|clear|- section a,romx|- rept 200|- nop|- endr|asm", "ok|ok|ok|no 2 1|ok|ok|ok|ok|ok|ok 1 0")
}

func TestLinkThatSaysNo(t *testing.T) {
	wantSays(t, "link|sym x|list 1|list 2", "ok 2|no|list / ds 256|no")
	wantSays(t, "- nop|asm|link|byte 0", "ok|no 2 1|ok 2|0")
	// The rom, the symbols and the machine that were there stay.
	for code, source := range map[int]string{
		2: "- section a,rom0,0|- nop|- section b,rom0,0|- nop",
		4: "- section a,rom0|- dw x",
		5: "- section a,rom0|- db 256",
		6: "- assert 0",
	} {
		n := strings.Count(source, "|") + 1
		oks, sections := strings.Repeat("ok|", n), strings.Count(source, "section")
		no := fmt.Sprintf("no %d", code)
		wantBehind(t, fmt.Sprintf("run 2|clear|%s|asm|link|out|sym one|byte 1|run 1|list 0", source), fmt.Sprintf("0 2 7 5|ok|%sok %d 0|%s|out 7|0 0|7|0 1 7 6|list / ld a,$07 / ldh [$01],a / halt / ds 251", oks, sections, no))
		wantSays(t, source+"|asm|link|link|sym x|byte 0", fmt.Sprintf("%sok %d 0|%s|%s|no|what", oks, sections, no, no))
	}
	for banks := 2; banks <= 16; banks++ {
		wantSays(t, fmt.Sprintf("- section a,romx,256,%d|- nop|asm|link|list %d|list %d", banks-1, banks-1, banks), fmt.Sprintf("ok|ok|ok 1 0|ok %d|list / ds 256|no", banks))
	}
}

func TestAsmAndLinkAgain(t *testing.T) {
	// To assemble is nothing to the machine, to link makes a new one.
	wantBehind(t, "run 3|out|asm|out|run 1|link|out|run 2|out", "0 3 7 6|out 7|ok 1 1|out 7|1 0 7 6|ok 2|out|0 2 7 5|out 7")
	wantBehind(t, "run 3|- def k,1|asm|out|byte 0|link|run 0", "0 3 7 6|ok|ok 1 2|out 7|62|ok 2|0 0 0 0")
	wantBehind(t, "run 1|clear|- section n,romx|- db 5|asm|byte 1|sym one|list 1|link|byte 1|sym one|list 1", "0 1 7 2|ok|ok|ok|ok 1 0|7|0 0|list / ds 256|ok 2|0|no|list / dec b / ds 255")
}

func TestClear(t *testing.T) {
	wantSays(t, "clear|clear|asm", "ok|ok|ok 0 0")
	wantSays(t, "- fly|clear|asm|- fly|asm|clear|- section a,rom0|asm", "ok|ok|ok 0 0|ok|no 1 1|ok|ok|ok 1 0")
	// The object, the rom, the symbols and the machine stay.
	wantBehind(t, "run 2|clear|out|byte 1|sym one|list 0|run 1|link|byte 1|sym one|asm|link|byte 1|sym one", "0 2 7 5|ok|out 7|7|0 0|list / ld a,$07 / ldh [$01],a / halt / ds 251|0 1 7 6|ok 2|7|0 0|ok 0 0|ok 2|0|no")
}

func TestRunsOfScripts(t *testing.T) {
	wantBehind(t, "run 0|run 1|run 0|run 9|run 9|run 0|run 500", "0 0 0 0|0 1 7 2|0 0 7 2|1 2 7 6|1 0 7 6|0 0 7 6|1 0 7 6")
	wantBehind(t, "run 501|run 500|run 65535|run 501|run 1", "no|1 3 7 6|no|no|1 0 7 6")
	loop := "- section a,rom0,0|- inc a|- jr 0|asm|link|"
	says := "ok|ok|ok|ok 1 0|ok 2|"
	wantSays(t, loop+"run 500|run 500|run 501|run 499|run 1|run 1", says+"0 500 250 1000|0 500 244 2000|no|0 499 238 2997|0 1 238 3000|0 1 239 3001")
	wantSays(t, "- section a,rom0,0|- inc a|- db $D3|asm|link|run 9|run 9|byte 1", "ok|ok|ok|ok 1 0|ok 2|2 1 1 1|2 0 1 1|211")
	out := "- section a,rom0,0|- x: inc a|- ldh [1],a|- jr x|asm|link|"
	full := "run 299|run 9|run 9"
	wantSays(t, out+full, "ok|ok|ok|ok|ok 1 1|ok 2|0 299 100 697|4 2 101 701|4 0 101 701")
	var all strings.Builder
	for k := range 100 {
		fmt.Fprint(&all, " ", k+1)
	}
	wantSays(t, out+"run 500|out", "ok|ok|ok|ok|ok 1 1|ok 2|4 301 101 701|out"+all.String())
}

// CtFive alone maps the first bank behind itself, and has banks of ram without a mode.
func TestTheCartOfScripts(t *testing.T) {
	wantSays(t, "- section a,rom0,0|- xor a,a|- ld [128],a|- section b,romx,256,1|- db 9|asm|link|byte 256|run 2|byte 256", "ok|ok|ok|ok|ok|ok 2 0|ok 2|9|0 2 0 5|175")
	wantSays(t, "- section a,rom0,0|- ld a,10|- ld [0],a|- ld a,3|- ld [256],a|- ld a,77|- ld [40960],a|- ld [256],a|- ld [$C000],sp|asm|link|run 6|byte 40960|run 1|byte 40960|run 1|byte $C000|byte $C001", "ok|ok|ok|ok|ok|ok|ok|ok|ok|ok 1 0|ok 2|0 6 77 18|77|0 1 77 22|0|0 1 77 27|254|255")
}

func TestOutOfScripts(t *testing.T) {
	wantSays(t, "out|link|out|run 1|out", "what|ok 2|out|0 1 0 1|out")
	wantSays(t, "- section a,rom0,0|- x: ldh [1],a|- dec a|- jr x|asm|link|out|run 1|out|run 4|out|run 3|out", "ok|ok|ok|ok|ok 1 1|ok 2|out|0 1 0 3|out 0|0 4 254 11|out 0 255|0 3 253 18|out 0 255 254")
}

func TestTracesOfScripts(t *testing.T) {
	wantBehind(t, "trace 0|trace 1|trace 2|trace 3|trace 8|trace 9|trace 100|trace 101|trace 65535", "trace|trace / 00:0000 ld a,$07|trace / 00:0000 ld a,$07 / 00:0002 ldh [$01],a|trace / 00:0000 ld a,$07 / 00:0002 ldh [$01],a / 00:0004 halt|trace / 00:0000 ld a,$07 / 00:0002 ldh [$01],a / 00:0004 halt|what|what|what|what")
	wantBehind(t, "run 2|trace 8|run 1|trace 8", "0 2 7 5|trace / 00:0004 halt|0 1 7 6|trace")
	wantSays(t, "- section a,rom0,0|- ld a,2|- ld [$80],a|- jp x|- section b,romx,$100,2|- x: jp $C000|asm|link|trace 8", "ok|ok|ok|ok|ok|ok|ok 2 1|ok 3|trace / 00:0000 ld a,$02 / 00:0002 ld [$0080],a / 00:0005 jp $0100 / 02:0100 jp $C000 / --:C000 nop / --:C001 nop / --:C002 nop / --:C003 nop")
}

func TestListsOfScripts(t *testing.T) {
	for n := range 12 {
		shown := min(n, 8)
		list := "list" + strings.Repeat(" / halt", shown)
		if n < 8 {
			list += fmt.Sprint(" / ds ", 256-n)
		}
		wantSays(t, fmt.Sprintf("- section a,romx,256,2|- rept %d|- halt|- endr|asm|link|list 2|list 0|list 1|list 3|list 16|list 65535", n), "ok|ok|ok|ok|ok 1 0|ok 3|"+list+"|list / ds 256|list / ds 256|no|no|no")
	}
	// Seven lines and what fills the bank are eight in all.
	wantSays(t, "- section a,rom0,0|- rept 7|- halt|- endr|asm|link|list 0", "ok|ok|ok|ok|ok 1 0|ok 2|list / halt / halt / halt / halt / halt / halt / halt / ds 249")
	// A list is of the rom, wherever the machine is, and whatever it has mapped.
	wantSays(t, "- section a,rom0,0|- ld [128],a|- jr 0|asm|link|list 0|run 7|list 0|list 1", "ok|ok|ok|ok 1 0|ok 2|list / ld [$0080],a / jr $0000 / ds 251|0 7 0 25|list / ld [$0080],a / jr $0000 / ds 251|list / ds 256")
}

// P18: what is said stays said when more lines stand behind it; where all would be too long nothing else is said.
func wantStaysSaid(t *testing.T, text, more string) {
	t.Helper()
	said, all := saysOf(t, text), saysOf(t, text+more)
	if all == "too long\n" {
		return
	}
	if said == "too long\n" || !strings.HasPrefix(all, said) {
		t.Fatalf("%q says %q, with %q behind it %q", text, said, more, all)
	}
}

func TestWhatWasSaidStaysSaid(t *testing.T) {
	lines := strings.SplitAfter(sourceOf(small+"|run 1|out|clear|- fly|asm|link|list 0|trace 3|byte 0|sym one|run 500|run 501|out|fly|||"), "\n")
	whole := strings.Join(lines, "")
	for k := range lines {
		text := strings.Join(lines[:k], "")
		wantStaysSaid(t, text, strings.Join(lines[k:], ""))
		for _, more := range []string{"clear\n", "asm\n", "link\n", "run 500\n", "fly\n", "- x\n", "\n", strings.Repeat("\n", 40-k)} {
			wantStaysSaid(t, text, more)
		}
	}
	if got := saysOf(t, whole); strings.Count(got, "\n") != 21 {
		t.Errorf("%d lines are said", strings.Count(got, "\n"))
	}
}

// askingLines change nothing, whatever they say.
var askingLines = []string{"sym one", "sym x", "byte 0", "byte 49152", "out", "trace 8", "trace 9", "list 0", "list 99", "run 0", "run 501", "fly", "", " ", "-x", "byte", "run x", "asm 1", "link x", "clear 1"}

// wantAskingChangesNothing puts lines that ask behind each line, as many as there is room for.
func wantAskingChangesNothing(t *testing.T, d *dice, lines []string) {
	t.Helper()
	plain := saysOf(t, strings.Join(lines, "\n")+"\n")
	var all []string
	var own []bool
	for k, line := range lines {
		all, own = append(all, line), append(own, !blankLine.MatchString(line))
		for range d.below(4) {
			ask := someOf(d, askingLines...)
			size := len(strings.Join(all, "\n")) + len(strings.Join(lines[k:], "\n")) + len(ask) + 3
			if len(all)+len(lines)-k > 40 || size > 4000 {
				break
			}
			all, own = append(all, ask), append(own, false)
		}
	}
	text := strings.Join(all, "\n") + "\n"
	said := strings.SplitAfter(saysOf(t, text), "\n")
	kept, at := "", 0
	for k, line := range all {
		if blankLine.MatchString(line) {
			continue
		}
		if own[k] {
			kept += said[at]
		}
		at++
	}
	if kept != plain {
		t.Fatalf("%q says %q, of which %q is of %q, which says %q", text, said, kept, lines, plain)
	}
}

func TestLinesThatAskChangeNothing(t *testing.T) {
	d := dice(181)
	for range 200 {
		wantAskingChangesNothing(t, &d, strings.Split(small+"|run 1|asm|out|run 1|byte 1|clear|run 9|link|run 2|out", "|"))
	}
	// Each of them behind each line.
	lines := strings.Split(small+"|run 2|clear|asm|run 1|out", "|")
	plain := saysOf(t, strings.Join(lines, "\n")+"\n")
	for _, ask := range askingLines {
		said := strings.SplitAfter(saysOf(t, strings.Join(lines, "\n"+ask+"\n")+"\n"), "\n")
		if blankLine.MatchString(ask) {
			if strings.Join(said, "") != plain {
				t.Errorf("%q changes what is said", ask)
			}
			continue
		}
		kept := ""
		for k := 0; k < len(said); k += 2 {
			kept += said[k]
		}
		if kept != plain {
			t.Errorf("%q behind each line changes what is said: %q, was %q", ask, kept, plain)
		}
	}
}

func someScriptNumber(d *dice) string {
	switch d.below(8) {
	case 0:
		return someOf(d, "x", "-1", "65536", "$", "%2", "70000", "1 1", "", "$g")
	case 1:
		return fmt.Sprintf("$%X", d.below(65536))
	case 2:
		return fmt.Sprint(d.below(512))
	}
	return fmt.Sprint(d.below(11))
}

func someScriptLine(d *dice) string {
	switch d.below(14) {
	case 0:
		return someOf(d, "", " ", "fly", "-", "-x", " - nop", "clear x", "\t", "\xff")
	case 1:
		return someOf(d, "clear", "clear", "asm", "link")
	case 2, 3:
		return "asm"
	case 4, 5:
		return "link"
	case 6:
		return "sym " + someOf(d, "x", "x", "y", "k", "j", "x.x", "z1")
	case 7:
		return "out"
	case 8:
		return "byte " + someScriptNumber(d)
	case 9, 10:
		return "run " + someOf(d, "1", "2", "10", "500", "501", someScriptNumber(d))
	case 11:
		return "trace " + someScriptNumber(d)
	case 12:
		return "list " + someOf(d, "0", "0", "1", someScriptNumber(d))
	}
	return someOf(d, "   ", "") + someOf(d, "asm", "link", "out", "clear", "run", "byte") + someOf(d, "  ", " 1 ", "   3")
}

// someScript has some source, and asks for this and that of it.
func someScript(d *dice) []string {
	lines := []string{"- section main,rom0,0", "- x: ld a," + fmt.Sprint(d.below(256)), "- def k," + fmt.Sprint(d.below(9)), "- export x"}[:min(4, d.below(8))]
	for len(lines) < 12 {
		switch line := someAsmLine(d, d.below(12) == 0); {
		case strings.Contains(line, "assert"), strings.Contains(line, "section"):
		case d.below(4) == 0:
			lines = append(lines, "- ldh [1],a", someOf(d, "- inc a", "- ei", "- halt", "- db $D3", "- jr 0"))
		case d.below(3) == 0:
			lines = append(lines, "- "+strings.ReplaceAll(line, "y", "x"))
		default:
			lines = append(lines, someScriptLine(d))
		}
	}
	lines = append(lines, "asm", "link")
	for range d.below(28) {
		lines = append(lines, someScriptLine(d))
	}
	return lines
}

func TestScriptsAgainstTheModel(t *testing.T) {
	d := dice(182)
	said := ""
	long := 0
	for range 1000 {
		lines := someScript(&d)
		text := strings.Join(lines, "\n") + "\n"
		got := saysOf(t, text)
		long += set1(got == "too long\n")
		said += got
		at := d.below(len(lines))
		wantStaysSaid(t, strings.Join(lines[:at], "\n")+"\n", strings.Join(lines[at:], "\n")+"\n")
		if got != "too long\n" {
			wantAskingChangesNothing(t, &d, lines)
		}
	}
	for shape, least := range map[string]int{
		`(?m)^ok$`: 2000, `(?m)^ok 1 \d+$`: 300, `(?m)^ok 0 0$`: 100, `(?m)^ok 2$`: 500, `(?m)^no$`: 300, `(?m)^no \d$`: 20, `(?m)^no \d \d+$`: 200,
		`(?m)^what$`: 1000, `(?m)^\d+ \d+$`: 30, `(?m)^\d+$`: 100, `(?m)^0 \d+ \d+ \d+$`: 100, `(?m)^1 \d+ \d+ \d+$`: 20, `(?m)^[24] \d+ \d+ \d+$`: 20,
		`(?m)^out$`: 100, `(?m)^out \d+$`: 30, `(?m)^out \d+ \d+`: 30, `(?m)^trace$`: 20, `(?m)^trace / `: 100, `(?m)^list / .*ds \d+$`: 50, `(?m)^list( / [^/\n]+){8}$`: 20,
	} {
		if n := len(regexp.MustCompile(shape).FindAllString(said, -1)); n < least {
			t.Errorf("%s is said %d times alone", shape, n)
		}
	}
	if long < 10 || long > 500 {
		t.Error("too few of one kind", long)
	}
}

func TestScriptsOfAnyBytes(t *testing.T) {
	d := dice(183)
	for range 1000 {
		saysOf(t, bytesOf(&d, d.below(60))+someOf(&d, "\n", "\n", ""))
		text := strings.Join(someScript(&d), "\n") + "\n"
		for range 1 + d.below(4) {
			at := d.below(len(text))
			text = text[:at] + someOf(&d, "\n", " ", "\x00", "\xff", "-", "- ", "\n- ", "9", "\n\n", "") + text[min(len(text), at+d.below(3)):]
		}
		saysOf(t, text)
	}
}

// A script ends, however much it asks for.
func TestScriptsEnd(t *testing.T) {
	much := "- section a,rom0,0\n- rept 1498\n- ds 0+0+0+0\n- endr\n- jr 0\n" + strings.Repeat("asm\nlink\nrun 500\n", 11)
	if got := saysOf(t, much); got != strings.Repeat("ok\n", 5)+strings.Repeat("ok 1 0\nok 2\n0 500 0 1500\n", 11) {
		t.Error(got)
	}
	if got := impl.RunScript(strings.Repeat("run 500\n", 1<<17)); got != "too long\n" {
		t.Error(brief(got))
	}
}

// P19: the same script says the same, also at the same time.
func TestScriptsAtTheSameTime(t *testing.T) {
	text := sourceOf(small + "|trace 2|run 9|out|sym one|list 0|byte 1")
	want := saysOf(t, text)
	wrong := make([]string, 8)
	var all sync.WaitGroup
	for k := range wrong {
		all.Go(func() {
			for range 20 {
				if got := impl.RunScript(text); got != want {
					wrong[k] = got
				}
			}
		})
	}
	all.Wait()
	if text := strings.Join(wrong, ""); text != "" {
		t.Error(text)
	}
	if !slices.Contains(strings.Split(want, "\n"), "out 7") {
		t.Error(want)
	}
}
