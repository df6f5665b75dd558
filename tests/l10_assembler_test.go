package tests

import (
	"fmt"
	"reflect"
	"regexp"
	"slices"
	"strconv"
	"strings"
	"testing"

	"loop.example/g00460/impl"
)

var registers = strings.Fields("af a b c d e h l bc de hl sp nz z nc")

// noRegisters are names that have one in them, or look like one.
var noRegisters = strings.Fields("aa ab hla ahl a.b .a .hl _a a_ a1 a. b0 bcd spx nzz zz ncc f i r m n8 n16 e8 cb high low bank neg not hlhl af_ .")

func registerIn(e eList) bool {
	for _, word := range strings.Fields(impl.ExprText(e)) {
		if slices.Contains(registers, strings.TrimPrefix(word, "#")) {
			return true
		}
	}
	return false
}

type openTemplate struct {
	code  int64
	hole  string
	shape *regexp.Regexp
}

var holeShape = regexp.MustCompile(`n16|n8|e8`)

// modelBook has the codes with a hole as shapes, and all others by their templates.
func modelBook() (open []openTemplate, whole map[string]impl.Ins) {
	whole = map[string]impl.Ins{}
	plain, prefixed := modelTemplates()
	for code := range int64(256) {
		whole[prefixed[code]] = impl.Ins{Code: code, Cb: true}
		hole := holeShape.FindString(plain[code])
		if hole == "" {
			whole[plain[code]] = impl.Ins{Code: code}
			continue
		}
		parts := strings.Split(plain[code], hole)
		open = append(open, openTemplate{code, hole, regexp.MustCompile("^" + regexp.QuoteMeta(parts[0]) + "(.*)" + regexp.QuoteMeta(parts[1]) + "$")})
	}
	delete(whole, "")
	return open, whole
}

var openBook, wholeBook = modelBook()

func modelFitting(text string) (impl.Ins, string, eList, bool) {
	if len(text) > 80 {
		return impl.Ins{}, "", nil, false
	}
	if i, ok := wholeBook[text]; ok {
		return i, "", nil, true
	}
	for _, o := range openBook {
		if m := o.shape.FindStringSubmatch(text); m != nil {
			if e, ok := impl.Compiled(m[1]); ok && !registerIn(e) {
				return impl.Ins{Code: o.code}, o.hole, e, true
			}
		}
	}
	return impl.Ins{}, "", nil, false
}

func wantFit(t *testing.T, text string, template string, hole string, expr string) {
	t.Helper()
	i, h, e, ok := impl.Fitting(text)
	if !ok || impl.TemplateOf(i.Code, i.Cb) != template || i.Imm != 0 || h != hole || impl.ExprText(e) != expr || hole == "" && len(e) > 0 {
		t.Errorf("Fitting(%q) = %v, %q, %v, %v, want %q, %q, %q", text, i, h, e, ok, template, hole, expr)
	}
}

func wantNoFit(t *testing.T, texts ...string) {
	t.Helper()
	for _, text := range texts {
		if i, hole, e, ok := impl.Fitting(text); ok || i != (impl.Ins{}) || hole != "" || len(e) > 0 {
			t.Errorf("Fitting(%q) = %v, %q, %v, %v, want none", text, i, hole, e, ok)
		}
	}
}

func wantModelFit(t *testing.T, text string) bool {
	t.Helper()
	i, hole, e, ok := impl.Fitting(text)
	wantI, wantHole, wantE, want := modelFitting(text)
	if ok != want || i != wantI || hole != wantHole || !slices.Equal(e, wantE) {
		t.Fatalf("Fitting(%q) = %v, %q, %v, %v, want %v, %q, %v, %v", text, i, hole, e, ok, wantI, wantHole, wantE, want)
	}
	return ok
}

// P10: an instruction as it stands in a source fits its own code.
func TestInstructionsFitTheirOwnCode(t *testing.T) {
	for _, i := range allRightIns() {
		text := impl.InsText(i)
		got, hole, e, ok := impl.Fitting(text)
		if !ok || got != (impl.Ins{Code: i.Code, Cb: i.Cb}) || hole != holeShape.FindString(impl.TemplateOf(i.Code, i.Cb)) {
			t.Fatalf("Fitting(%q) = %v, %q, %v, want %v", text, got, hole, ok, i)
		}
		if hole == "" {
			if len(e) > 0 {
				t.Fatalf("Fitting(%q) has the nodes %v", text, e)
			}
			continue
		}
		n, code := impl.EvalExpr(e, nil)
		if hole == "e8" {
			n &= 255
		}
		if code != impl.EvOk || n != i.Imm {
			t.Fatalf("Fitting(%q): its hole tells %d, %d", text, n, code)
		}
	}
}

func TestTemplatesFit(t *testing.T) {
	plain, prefixed := modelTemplates()
	for code := range int64(256) {
		for cb, template := range map[bool]string{false: plain[code], true: prefixed[code]} {
			if template == "" {
				continue
			}
			hole := holeShape.FindString(template)
			wantFit(t, template, template, hole, hole)
			if hole != "" {
				wantFit(t, strings.Replace(template, hole, "x+1", 1), template, hole, "x 1 +")
				wantFit(t, strings.Replace(template, hole, "-$10", 1), template, hole, "16 neg")
				wantNoFit(t, strings.Replace(template, hole, "", 1), strings.Replace(template, hole, "(", 1), strings.Replace(template, hole, "1,2", 1), strings.Replace(template, hole, " 1", 1), strings.Replace(template, hole, "65536", 1), strings.Replace(template, hole, "A", 1), strings.Replace(template, hole, "[x]]", 1))
			}
			if got, _, _, _ := impl.Fitting(template); got != (impl.Ins{Code: code, Cb: cb}) {
				t.Errorf("%q fits %v", template, got)
			}
			wantNoFit(t, " "+template, template+" ", strings.ToUpper(template), "q"+template, strings.Replace(template, " ", "  ", 1)+" ", template+",", template+"\n", template+"\x80")
		}
	}
}

func TestFitting(t *testing.T) {
	wantFit(t, "nop", "nop", "", "")
	wantFit(t, "ld a,[hl+]", "ld a,[hl+]", "", "")
	wantFit(t, "jp hl", "jp hl", "", "")
	wantFit(t, "ld sp,hl", "ld sp,hl", "", "")
	wantFit(t, "ldh [c],a", "ldh [c],a", "", "")
	wantFit(t, "rst $38", "rst $38", "", "")
	wantFit(t, "set 7,[hl]", "set 7,[hl]", "", "")
	wantFit(t, "swap a", "swap a", "", "")
	wantFit(t, "ld a,x", "ld a,n8", "n8", "x")
	wantFit(t, "ld [hl],x", "ld [hl],n8", "n8", "x")
	wantFit(t, "ld [x],a", "ld [n16],a", "n16", "x")
	wantFit(t, "ld [x],sp", "ld [n16],sp", "n16", "x")
	wantFit(t, "ld hl,x", "ld hl,n16", "n16", "x")
	wantFit(t, "ld hl,sp+x", "ld hl,sp+e8", "e8", "x")
	wantFit(t, "ld hl,sp+-3", "ld hl,sp+e8", "e8", "3 neg")
	wantFit(t, "ld hl,sp+1+2", "ld hl,sp+e8", "e8", "1 2 +")
	wantFit(t, "add sp,x", "add sp,e8", "e8", "x")
	wantFit(t, "add a,x", "add a,n8", "n8", "x")
	wantFit(t, "jr c,c_", "jr c,e8", "e8", "c_")
	wantFit(t, "jp x", "jp n16", "n16", "x")
	wantFit(t, "jp nz,x", "jp nz,n16", "n16", "x")
	wantFit(t, "call c,bank(x)", "call c,n16", "n16", "#x")
	wantFit(t, "stop 0", "stop n8", "n8", "0")
	wantFit(t, "ldh a,[low(x)]", "ldh a,[n8]", "n8", "x low")
	wantFit(t, "ld a,[(x)]", "ld a,[n16]", "n16", "x")
	wantFit(t, "ld a,(x)", "ld a,n8", "n8", "x")
	wantNoFit(t, "", " ", "fly", "ld", "ld a", "ld a,", ",", "stop", "jr", "jp", "rst", "rst 8", "rst $8", "rst $09", "rst x", "bit 8,a", "bit x,a", "bit 3", "swap x", "rlc 5", "ld [hl],[hl]", "ld hl,sp", "ld hl,sp-3", "ld [x],b", "ld c,[x]", "ld x,a", "ld x,5", "add hl,5", "inc x", "inc 5", "push x", "push sp", "pop sp", "jp [hl]", "jp [x]", "jr x,y", "call hl", "ret x", "db 1", "prefix", "\x00", "\xff", "ld a,\xff", "ld a,5;", "ld a,5 ", "ld a, 5", "ld  a,5", "ld a ,5", "ldh [hl],a", "ld a,[[x]]", "ld [a],a", "ldhl sp,5", "add 5", "and 5")
}

func TestRegistersInHoles(t *testing.T) {
	for _, o := range openBook {
		template := impl.TemplateOf(o.code, false)
		for _, r := range registers {
			for _, fill := range []string{"%", "(%)", "-%", "~%", "1+%", "%+1", "high(%)", "low(%)", "bank(%)", "high(low(%))", "x*(y-%)", "1<<bank(%)", "((%))|x"} {
				text := strings.Replace(template, o.hole, strings.ReplaceAll(fill, "%", r), 1)
				wantModelFit(t, text)
				if _, _, e, ok := impl.Fitting(text); ok && registerIn(e) {
					t.Fatalf("%q fits with %v", text, e)
				}
				// Of a word that begins like one that fits, all else is the expression.
				if fill != "%" && fill != "%+1" {
					wantNoFit(t, text)
				}
			}
		}
		for _, s := range noRegisters {
			for fill, want := range map[string]string{"%": "%", "high(%)": "% high", "low(%)": "% low", "bank(%)": "#%", "1+%": "1 % +"} {
				wantFit(t, strings.Replace(template, o.hole, strings.ReplaceAll(fill, "%", s), 1), template, o.hole, strings.ReplaceAll(want, "%", s))
			}
		}
	}
	wantNoFit(t, "ld a,hl", "ld a,af", "ld a,bc", "ld a,nz", "ld a,z", "ld b,nc", "jr z", "jr nz", "jr c", "jp c", "call nz", "ld bc,de", "ld hl,sp", "ld sp,sp", "add a,sp", "ld [sp],a", "ld [af],a", "ldh [b],a", "ld hl,sp+a", "ld hl,sp+sp", "ld hl,sp+sp+1", "stop a")
}

func TestFittingAtItsLimit(t *testing.T) {
	for n := 60; n < 100; n++ {
		text := "ld a,"
		for len(text)+18 < n {
			text += "%0000000000000000+"
		}
		text += strings.Repeat("0", n-len(text)-1) + "1"
		if len(text) != n {
			t.Fatal(text)
		}
		if _, _, e, ok := impl.Fitting(text); ok != (n <= 80) || ok != (len(e) > 0) {
			t.Errorf("%d bytes: %v, %v", n, e, ok)
		}
	}
	wantNoFit(t, "nop"+strings.Repeat(" ", 78), strings.Repeat("x", 80), strings.Repeat("x", 81), "ld a,"+strings.Repeat("x", 100000))
	deep := func(n int) string { return "jp " + strings.Repeat("(", n) + "x" + strings.Repeat(")", n) }
	wantFit(t, deep(30), "jp n16", "n16", "x")
	wantNoFit(t, deep(31))
}

func someFitText(d *dice) string {
	open := openBook[d.below(len(openBook))]
	template := impl.TemplateOf(open.code, false)
	fill := exprPool[d.below(len(exprPool))].source
	switch d.below(4) {
	case 0:
		fill = registers[d.below(len(registers))]
	case 1:
		fill = noRegisters[d.below(len(noRegisters))] + someOf(d, "", "+1", "-hl", "]", "[", ",a")
	case 2:
		template = impl.TemplateOf(int64(d.below(256)), d.below(2) == 0)
	}
	text := strings.Replace(template, open.hole, fill, 1)
	if at := d.below(len(text) + 1); d.below(4) == 0 {
		text = text[:at] + someOf(d, " ", ",", "[", "]", "a", "+", "hl", "\x80") + text[at:]
	}
	return text
}

func TestFittingAgainstTheModel(t *testing.T) {
	d := dice(101)
	fits := 0
	for range 20000 {
		if wantModelFit(t, someFitText(&d)) {
			fits++
		}
	}
	if fits < 4000 || fits > 16000 {
		t.Error("too few of one kind", fits)
	}
}

// sourceOf is a source of lines that are written with a bar between two.
func sourceOf(s string) string {
	if s == "" {
		return ""
	}
	return strings.ReplaceAll(s, "|", "\n") + "\n"
}

func wantSourceRefused(t *testing.T, source string, code int64, line int64) {
	t.Helper()
	if o, c, n := impl.Assembled(source); c != code || n != line || !reflect.DeepEqual(o, impl.Object{}) {
		t.Errorf("Assembled(%.300q) = %s, %d, %d, want %d, %d", source, brief(o), c, n, code, line)
	}
}

func wantRefused(t *testing.T, code int64, line int64, lines ...string) {
	t.Helper()
	for _, s := range lines {
		wantSourceRefused(t, sourceOf(s), code, line)
	}
}

func rightObject(t *testing.T, source string) impl.Object {
	t.Helper()
	o, code, line := impl.Assembled(source)
	if code != impl.AsOk || line != 0 || !impl.ObjectOk(o) {
		t.Fatalf("Assembled(%.300q) = %s, %d, %d", source, brief(o), code, line)
	}
	return o
}

func wantSourceRight(t *testing.T, lines ...string) {
	t.Helper()
	for _, s := range lines {
		rightObject(t, sourceOf(s))
	}
}

// wantAssembled asks for the text of the object; both are written with a bar between two lines.
func wantAssembled(t *testing.T, lines string, want string) {
	t.Helper()
	if text := impl.ObjectText(rightObject(t, sourceOf(lines))); text != sourceOf(want) {
		t.Errorf("%q: %q, want %q", lines, text, sourceOf(want))
	}
}

func TestNumbersOfTheAssembler(t *testing.T) {
	codes := []int{impl.AsOk, impl.AsForm, impl.AsSection, impl.AsTwice, impl.AsName, impl.AsFull, impl.AsExpand}
	if !slices.Equal(codes, []int{0, 1, 2, 3, 4, 5, 6}) || impl.MaxSource != 40000 {
		t.Error("another number")
	}
}

func TestSources(t *testing.T) {
	wantAssembled(t, "", "")
	if o, code, line := impl.Assembled(""); code != 0 || line != 0 || !reflect.DeepEqual(o, impl.Object{}) {
		t.Error("without anything", o, code, line)
	}
	for _, s := range []string{"\n", "\n\n", " \n", ";\n", "; x\n   \n"} {
		if o := rightObject(t, s); !sameObject(o, impl.Object{}) {
			t.Errorf("%q: %v", s, o)
		}
	}
	for _, s := range []string{"x", " ", ";", "section a,rom0", "section a,rom0\nnop", "\n ", "rept 2\nnop", "\x00", "\xff", "Fly"} {
		wantSourceRefused(t, s, impl.AsForm, 0)
	}
	for _, s := range []string{"Fly", "a b:", "1", "nop\r", "\tnop", "db \x80", "\xff", "\x00", "x: y: z", "abcdefghijk", "section a,rom0\x7f", "a:b:c"} {
		wantRefused(t, impl.AsForm, 1, s, s+"|nop", s+"|"+s)
		wantRefused(t, impl.AsForm, 3, "section a,rom0|nop|"+s+"|fly")
	}
}

func TestSourcesAtTheirLimits(t *testing.T) {
	line := strings.Repeat(";", 79) + "\n"
	full := strings.Repeat(line, 500)
	rightObject(t, full)
	for _, more := range []string{"\n", ";", "nop\n"} {
		wantSourceRefused(t, full+more, impl.AsForm, 0)
		wantSourceRefused(t, more+full, impl.AsForm, 0)
	}
	rightObject(t, full[80:]+strings.Repeat("\n", 80))
	wantSourceRefused(t, full[80:]+strings.Repeat("\n", 81), impl.AsForm, 0)
	wantSourceRefused(t, full[:39999]+";", impl.AsForm, 0)
	// What is too long is told ahead of what does not expand, and of a line that is none.
	wantSourceRefused(t, "endr\n"+full, impl.AsForm, 0)
	wantSourceRefused(t, strings.Repeat("x", 40000), impl.AsForm, 0)
	wantSourceRefused(t, strings.Repeat("x", 39999)+"\n", impl.AsExpand, 0)
	wantSourceRefused(t, strings.Repeat("x", 40000)+"\n", impl.AsForm, 0)
	rightObject(t, strings.Repeat("\n", 1500))
	wantSourceRefused(t, strings.Repeat("\n", 1501), impl.AsForm, 0)
	wantSourceRefused(t, strings.Repeat("\n", 1500)+"x", impl.AsForm, 0)
	wantSourceRefused(t, strings.Repeat("endr\n", 1501), impl.AsForm, 0)
	wantSourceRefused(t, strings.Repeat("endr\n", 1500), impl.AsExpand, 0)
	wantSourceRefused(t, strings.Repeat("\n", 1499)+"fly\n", impl.AsForm, 1500)
	wantSourceRefused(t, strings.Repeat("\n", 1000000), impl.AsForm, 0)
}

func TestSourcesThatDoNotExpand(t *testing.T) {
	wantRefused(t, impl.AsExpand, 0, "rept 2", "endr", "else", "fly|endc", "if x|endc", "macro m|m|endm|m", "rept 1500|nop|endr", "x: rept 1|endr", strings.Repeat("x", 81), "nop|"+strings.Repeat(";", 81))
	wantRefused(t, impl.AsForm, 1, strings.Repeat("x", 80))
	// The lines that come out are counted.
	wantRefused(t, impl.AsForm, 4, "section a,rom0|rept 2|nop|endr|fly")
	wantRefused(t, impl.AsForm, 2, "macro m|fly|endm|section a,rom0|m|nop", "if 0|fly|fly|else|section a,rom0|endc|fly")
	wantRefused(t, impl.AsTwice, 5, "section a,rom0|rept 2|nop|x:|endr")
	wantAssembled(t, "macro two|db \\1,\\1+1|endm|section a,rom0|two 5|rept 2|ds 1|endr", "section a 0 -1 -1 00000000|patch 0 1 5|patch 1 1 5 1 +")
}

func TestLabels(t *testing.T) {
	wantAssembled(t, "section s,rom0|x:|nop|y: nop|zz:|section t,work|v: ds 3|u:|section r,romx|t: ds 256|t2:", "section s 0 -1 -1 0000|section t 2 -1 -1 000000|section r 1 -1 -1 "+strings.Repeat("00", 256)+"|symbol t 2 0 0|symbol t2 2 256 0|symbol u 1 3 0|symbol v 1 0 0|symbol x 0 0 0|symbol y 0 1 0|symbol zz 0 2 0")
	wantRefused(t, impl.AsSection, 1, "x:", "x: nop", "x: fly", "x: section a,rom0", ".x:", "hl:", "x: def k,1", "x: db (")
	wantRefused(t, impl.AsSection, 2, "def k,1|k:", "|x:")
	wantRefused(t, impl.AsTwice, 3, "section a,rom0|x:|x:", "section a,rom0|x:|x: fly", "section a,rom0|x:|x: section a,rom0", "section a,rom0|def x,1|x:", "section a,rom0|x:|def x,1")
	wantRefused(t, impl.AsTwice, 4, "section a,rom0|x:|section b,rom0|x:", "section a,rom0|x:|.y:|x.y:", "section a,rom0|x.y:|x:|.y:", "section a,rom0|x:|.y:|.y:")
	for _, r := range registers {
		wantRefused(t, impl.AsForm, 2, "section a,rom0|"+r+":", "section a,rom0|"+r+": nop", "section a,rom0|def "+r+",1")
	}
	for _, s := range noRegisters {
		if s[0] != '.' {
			wantSourceRight(t, "section a,rom0|"+s+":", "section a,rom0|"+s+": nop|.x: jr .x")
		}
	}
	wantSourceRight(t, "section hl,rom0|x:", "section a,rom0|abcdefghijklmnop:", "section x,rom0|x:")
	wantRefused(t, impl.AsForm, 2, "section a,rom0|abcdefghijklmnopq:")
	// A label stands ahead of what its line does.
	wantAssembled(t, "section a,rom0|nop|x: section b,rom0|y:", "section a 0 -1 -1 00|section b 0 -1 -1 |symbol x 0 1 0|symbol y 1 0 0")
	wantRefused(t, impl.AsForm, 3, "section a,rom0|x: section b,rom0|.y:")
}

func TestLocalLabels(t *testing.T) {
	wantAssembled(t, "section a,rom0|x:|.y: nop|.z:|w: nop|.y: jr .y|jp x.y|jp .z", "section a 0 -1 -1 00001800C30000C30000|patch 3 3 w.y|patch 5 2 x.y|patch 8 2 w.z|symbol w 0 1 0|symbol w.y 0 2 0|symbol x 0 0 0|symbol x.y 0 0 0|symbol x.z 0 1 0")
	wantRefused(t, impl.AsForm, 2, "section a,rom0|.x:", "section a,rom0|.x: nop|y:", "section a,rom0|.:")
	wantRefused(t, impl.AsForm, 4, "section a,rom0|x:|section b,rom0|.y:", "section a,rom0|x:|section b,rom0|.x:")
	wantRefused(t, impl.AsForm, 3, "def k,1|section a,rom0|.x:", "section a,rom0|def k,1|.x:")
	wantSourceRight(t, "section a,rom0|x:|section b,rom0|y:|.z:", "section a,rom0|x:|..:|..y:|.:", "section a,rom0|x:|def k,1|db 5|.y:")
	// Together they are a name of at most 16 bytes.
	wantSourceRight(t, "section a,rom0|abcdefgh:|.bcdefgh:", "section a,rom0|abcdefghijklmn:|.x:", "section a,rom0|x:|.bcdefghijklmno:")
	wantRefused(t, impl.AsForm, 3, "section a,rom0|abcdefgh:|.bcdefghi:", "section a,rom0|abcdefghijklmno:|.x:", "section a,rom0|abcdefghijklmnop:|.:", "section a,rom0|x:|.bcdefghijklmnop:")
	wantRefused(t, impl.AsForm, 3, "section a,rom0|abcdefghijklmno:|jr .x", "section a,rom0|abcdefghijklmno:|db .x", "section a,rom0|abcdefghijklmno:|dw 1,bank(.x)", "section a,rom0|abcdefghijklmno:|assert .x", "section a,rom0|abcdefghijklmno:|def k,.x", "section a,rom0|abcdefghijklmno:|db 1+high(.x)")
	wantSourceRight(t, "section a,rom0|abcdefghijklmn:|jr .x|db .x,bank(.x)|assert .x", "section a,rom0|abcdefghijklmno:|jr .")
	// Without a label ahead a name with a point stays as it is.
	wantAssembled(t, "section a,rom0|jr .x|db bank(.y)|assert .z|section b,rom0|x:|dw .y+bank(.z)-high(w.v)|section c,rom0|dw .y", "section a 0 -1 -1 180000|patch 1 3 .x|patch 2 1 #.y|section b 0 -1 -1 0000|patch 0 2 x.y #x.z + w.v high -|section c 0 -1 -1 0000|patch 0 2 .y|symbol x 1 0 0|assert .z")
	wantAssembled(t, "section a,rom0|x:|.y: section b,rom0|db .y", "section a 0 -1 -1 |section b 0 -1 -1 00|patch 0 1 .y|symbol x 0 0 0|symbol x.y 0 0 0")
	wantSourceRight(t, "section a,rom0|jp .bcdefghijklmnop")
}

func TestHowManySymbols(t *testing.T) {
	for _, word := range []string{"x%d:", "def x%d,1"} {
		var lines []string
		for k := range 201 {
			lines = append(lines, fmt.Sprintf(strings.ReplaceAll(word, "%d", "%03d"), k))
		}
		slices.Reverse(lines)
		head := "section a,rom0|"
		o := rightObject(t, sourceOf(head+strings.Join(lines[:200], "|")))
		if len(o.Syms) != 200 || o.Syms[0].Name != "x001" || o.Syms[199].Name != "x200" {
			t.Error("other symbols", o.Syms)
		}
		wantRefused(t, impl.AsFull, 202, head+strings.Join(lines, "|"), head+strings.Join(lines[:200], "|")+"|y:", head+strings.Join(lines[:200], "|")+"|def y,1")
		wantRefused(t, impl.AsTwice, 202, head+strings.Join(lines[:200], "|")+"|x007:", head+strings.Join(lines[:200], "|")+"|def x200,1")
		wantRefused(t, impl.AsForm, 202, head+strings.Join(lines[:200], "|")+"|hl:", head+strings.Join(lines[:200], "|")+"|def hl,1")
		wantSourceRight(t, head+strings.Join(lines[:200], "|")+"|db x001|export x001")
	}
}

func TestSectionLines(t *testing.T) {
	wantAssembled(t, "section a,rom0|section b,romx|section c,work|section d,rom0,5|section e,romx,300|section f,work,$C000|section g,romx,256,1|section h,romx,512,15", "section a 0 -1 -1 |section b 1 -1 -1 |section c 2 -1 -1 |section d 0 -1 5 |section e 1 -1 300 |section f 2 -1 49152 |section g 1 1 256 |section h 1 15 512 ")
	wantAssembled(t, "section a , romx , 255+1 , high($300) ; c", "section a 1 3 256 ")
	wantSourceRight(t, "section a,rom0,0", "section a,rom0,255", "section a,rom0,256", "section a,work,49408", "section neg,rom0", "section .x,rom0")
	wantRefused(t, impl.AsForm, 1, "section", "section a", "section ,", "section a,", "section ,rom0", "section a,rom0,", "section a,romx,,1", "section a,romx,256,", "section a,romx,256,1,1", "section a,romx,256,1,", "section a,rom1", "section a,rom", "section a,ROM0", "section a,0", "section A,rom0", "section a b,rom0", "section 1a,rom0", "section abcdefghijklmnopq,rom0", "section rom0,a", "section a rom0", "section \"a\",rom0",
		"section a,rom0,257", "section a,rom0,-1", "section a,rom0,0-1", "section a,romx,255", "section a,romx,513", "section a,romx,0", "section a,work,49151", "section a,work,49409", "section a,work,0", "section a,rom0,x", "section a,rom0,a", "section a,rom0,.x", "section a,rom0,bank(x)", "section a,rom0,1%0", "section a,rom0,(", "section a,rom0,1 + 1", "section a,rom0,65535*65535",
		"section a,rom0,0,0", "section a,rom0,0,1", "section a,rom0,0,-1", "section a,work,49152,0", "section a,work,49152,1", "section a,romx,256,0", "section a,romx,256,16", "section a,romx,256,-1", "section a,romx,256,0-1", "section a,romx,256,x", "section a,romx,256,hl", "section a,romx,-1,1", "section a,romx,256,1<<31", "section a,romx,256,65536")
	wantSourceRefused(t, "section a,rom0,1/0\n", impl.AsForm, 1)
	wantRefused(t, impl.AsForm, 2, "def k,5|section a,rom0,k", "def k,1|section a,romx,256,k")
	wantRefused(t, impl.AsForm, 3, "section b,rom0|x:|section a,rom0,x", "section b,rom0|x:|section a,rom0,0,1")
	wantRefused(t, impl.AsTwice, 2, "section a,rom0|section a,rom0", "section a,rom0|section a,romx,300,2", "section a,work|section a,rom0")
	wantRefused(t, impl.AsForm, 2, "section a,rom0|section a,rom1", "section a,rom0|section a,rom0,257")
	wantRefused(t, impl.AsTwice, 3, "section a,rom0|section b,rom0|section a,rom0")
	var lines []string
	for k := range 13 {
		lines = append(lines, fmt.Sprintf("section s%d,rom0|db %d", k, k))
	}
	if o := rightObject(t, sourceOf(strings.Join(lines[:12], "|"))); len(o.Sections) != 12 || o.Sections[11].Name != "s11" {
		t.Error("other sections", o)
	}
	wantRefused(t, impl.AsFull, 25, strings.Join(lines, "|"))
	wantRefused(t, impl.AsTwice, 25, strings.Join(lines[:12], "|")+"|section s0,rom0")
	wantRefused(t, impl.AsForm, 25, strings.Join(lines[:12], "|")+"|section s0", strings.Join(lines[:12], "|")+"|section s12")
}

func TestBytesAndWords(t *testing.T) {
	wantAssembled(t, "section a,rom0|db 1|dw 2|db x,y+1,-w|dw $FFFF,65535*65535|db 256,bank(x)", "section a 0 -1 -1 "+strings.Repeat("00", 12)+"|patch 0 1 1|patch 1 2 2|patch 3 1 x|patch 4 1 y 1 +|patch 5 1 w neg|patch 6 2 65535|patch 8 2 65535 65535 *|patch 10 1 256|patch 11 1 #x")
	for _, word := range []string{"db", "dw"} {
		wantRefused(t, impl.AsForm, 2, "section a,rom0|"+word, "section a,rom0|"+word+" ,", "section a,rom0|"+word+" 1,", "section a,rom0|"+word+" ,1", "section a,rom0|"+word+" 1,,2", "section a,rom0|"+word+" 1 2", "section a,rom0|"+word+" (1", "section a,rom0|"+word+" \"x\"", "section a,rom0|"+word+" 65536", "section a,rom0|"+word+" A")
		for _, r := range registers {
			wantRefused(t, impl.AsForm, 2, "section a,rom0|"+word+" "+r, "section a,rom0|"+word+" 1,"+r, "section a,rom0|"+word+" high("+r+")", "section a,rom0|"+word+" low(1+"+r+")", "section a,rom0|"+word+" bank("+r+")")
		}
		for _, s := range noRegisters {
			wantSourceRight(t, "section a,rom0|"+word+" "+s+",high("+s+"),low("+s+"),bank("+s+")")
		}
		wantRefused(t, impl.AsForm, 1, word, word+" ,", word+" (", word+" hl", word+" (,1")
		wantRefused(t, impl.AsSection, 1, word+" 1", word+" 1,2", word+" x")
		wantRefused(t, impl.AsSection, 2, "section a,work|"+word+" 0", "section a,work|"+word+" 1,2", "section a,work|"+word+" 1,(")
		wantRefused(t, impl.AsForm, 2, "section a,work|"+word, "section a,work|"+word+" hl")
		// One by one: what stands ahead of a wrong one was put already, or could not be.
		wantRefused(t, impl.AsSection, 1, word+" 1,(")
		wantRefused(t, impl.AsFull, 3, "section a,rom0|ds 256|"+word+" 1,(")
		wantRefused(t, impl.AsForm, 3, "section a,rom0|ds 256|"+word+" (,1", "section a,rom0|ds 254|"+word+" 1,(")
	}
}

func TestSpace(t *testing.T) {
	for _, kind := range []string{"rom0", "romx", "work"} {
		for _, n := range []int{0, 1, 2, 255, 256} {
			if o := rightObject(t, sourceOf(fmt.Sprintf("section a,%s|ds %d", kind, n))); o.Sections[0].Data != strings.Repeat("\x00", n) || len(o.Sections[0].Patches) > 0 {
				t.Error(kind, n, o)
			}
		}
		for _, s := range []string{"257", "65535", "-1", "0-1", "x", "k", "", "1,2", "1,", ",", "(", "hl", "1%0", "bank(k)", "1 1", "65536", "1<<31", ".x", "0x1"} {
			wantRefused(t, impl.AsForm, 3, "def k,1|section a,"+kind+"|ds "+s)
			wantRefused(t, impl.AsForm, 1, "ds "+s)
		}
		wantRefused(t, impl.AsFull, 3, "section a,"+kind+"|ds 256|ds 1", "section a,"+kind+"|ds 200|ds 57", "section a,"+kind+"|ds 1|ds 256")
		wantSourceRight(t, "section a,"+kind+"|ds 256|ds 0", "section a,"+kind+"|ds 200|ds 56", "section a,"+kind+"|ds 2*100+low($138)", "section a,"+kind+"|ds 256-256")
	}
	wantRefused(t, impl.AsSection, 1, "ds 1", "ds 0", "ds 256")
	wantSourceRefused(t, "section a,rom0\nds 1/0\n", impl.AsForm, 2)
	wantAssembled(t, "section a,rom0|ds 2|db x|ds 1|nop", "section a 0 -1 -1 0000000000|patch 2 1 x")
}

func TestConstants(t *testing.T) {
	wantAssembled(t, "def b1,2|def a1,b1*3|def c1,-a1|def neg,bank(b1)|def .x,7|def y,.x+1", "symbol .x -1 7 0|symbol a1 -1 6 0|symbol b1 -1 2 0|symbol c1 -1 -6 0|symbol neg -1 0 0|symbol y -1 8 0")
	wantAssembled(t, "def k,1<<31|def j,(1<<31)-1|def i,65535*65535", "symbol i -1 -131071 0|symbol j -1 2147483647 0|symbol k -1 -2147483648 0")
	wantAssembled(t, "section a,rom0|x: def k,5|def x.y,6|def j,.y+k|nop", "section a 0 -1 -1 00|symbol j -1 11 0|symbol k -1 5 0|symbol x 0 0 0|symbol x.y -1 6 0")
	wantRefused(t, impl.AsForm, 1, "def", "def k", "def k,", "def ,", "def k,1,2", "def k,1,", "def k,(", "def k,hl", "def k,1+a", "def k,bank(sp)", "def k,1 + 1", "def k 1", "def k,65536", "def K,1", "def 1k,1", "def ,1", "def a b,1", "def abcdefghijklmnopq,1", "def hl,1", "def k,A")
	wantRefused(t, impl.AsName, 1, "def k,j", "def k,k", "def k,1%0", "def k,bank(j)", "def k,.x", "def k,high(j)", "def k,j|def j,1", "def k,1+2*(3-j)")
	wantSourceRefused(t, "def k,1/0\n", impl.AsName, 1)
	wantSourceRefused(t, "def z1,0\ndef k,1/z1\n", impl.AsName, 2)
	wantRefused(t, impl.AsName, 3, "section a,rom0|x:|def k,x", "section a,rom0|x:|def k,bank(x)", "section a,rom0|x:|def k,x-x", "section a,rom0|x:|def k,.y")
	wantRefused(t, impl.AsName, 4, "def .y,1|section a,rom0|x:|def k,.y")
	wantSourceRight(t, "def .y,1|section a,rom0|def k,.y|x:")
	wantRefused(t, impl.AsTwice, 2, "def k,1|def k,1", "def k,1|def k,k")
	// What its expression tells is asked ahead of its name.
	wantRefused(t, impl.AsName, 1, "def hl,j", "def K,j", "def ,j")
	wantRefused(t, impl.AsName, 2, "def k,1|def k,j")
	wantRefused(t, impl.AsForm, 2, "def k,1|def k,(", "def k,1|def k,hl")
}

func TestExports(t *testing.T) {
	wantAssembled(t, "export x|export k|section a,rom0|x:|y:|.z:|def k,1|def j,2|export y.z|export x", "section a 0 -1 -1 |symbol j -1 2 0|symbol k -1 1 1|symbol x 0 0 1|symbol y 0 0 0|symbol y.z 0 0 1")
	wantRefused(t, impl.AsForm, 1, "export", "export X", "export 1", "export x,y", "export x,", "export ,", "export x y", "export $1", "export abcdefghijklmnopq", "export (x)", "export x+1", "export x:")
	wantRefused(t, impl.AsName, 1, "export x", "export hl", "export neg", "export .x", "export a|def b1,1", "export x|section a,rom0|y: nop", "export a|export b1|def b1,1", "export .y|section a,rom0|x:|.y:", "export y|section y,rom0")
	wantRefused(t, impl.AsName, 2, "def b1,1|export a", "export b1|export a|def b1,1", "export b1|export a|export c|def b1,1")
	wantRefused(t, impl.AsName, 4, "section a,rom0|x:|.y:|export .y")
	// Behind all lines alone is asked whether it is there.
	wantRefused(t, impl.AsForm, 2, "export x|fly", "export x|export X")
	wantRefused(t, impl.AsForm, 1, "fly|export x")
	wantRefused(t, impl.AsSection, 3, "export x|def y,1|nop|export z")
	wantRefused(t, impl.AsName, 3, "export y|def y,1|export z|export w")
	wantSourceRight(t, "export .x|def .x,1", "export x|export x|def x,1")
	lines := strings.Repeat("export x|", 1499) + "def x,1"
	wantAssembled(t, lines, "symbol x -1 1 1")
}

func TestAsserts(t *testing.T) {
	wantAssembled(t, "assert 0|assert x+1|assert bank(x)%0|assert .x|section a,rom0|y: assert .x", "section a 0 -1 -1 |symbol y 0 0 0|assert 0|assert x 1 +|assert #x 0 %|assert .x|assert y.x")
	wantRefused(t, impl.AsForm, 1, "assert", "assert 1,2", "assert ,", "assert (", "assert hl", "assert bank(a)", "assert 1 + 1", "assert x==1", "assert high(c)", "assert 65536")
	twelve := strings.Repeat("assert x|", 11) + "assert x"
	wantSourceRight(t, twelve, twelve+"|def x,1")
	wantRefused(t, impl.AsFull, 13, twelve+"|assert x", twelve+"|assert 1|fly")
	wantRefused(t, impl.AsForm, 13, twelve+"|assert", twelve+"|assert (", twelve+"|assert hl")
}

func TestInstructionLines(t *testing.T) {
	wantAssembled(t, "section a,rom0|nop|jr x|jr nz,x|jr c,.y|ld hl,sp+x|add sp,x|ld a,x|ld a,[x]|ld [x],sp|ldh [x],a|jp x|call z,x|bit 7,[hl]|stop x|rst $08|ld bc,x|cp a,x", "section a 0 -1 -1 "+"00"+"1800"+"2000"+"3800"+"F800"+"E800"+"3E00"+"FA0000"+"080000"+"E000"+"C30000"+"CC0000"+"CB7E"+"1000"+"CF"+"010000"+"FE00"+
		"|patch 2 3 x|patch 4 3 x|patch 6 3 .y|patch 8 1 x|patch 10 1 x|patch 12 1 x|patch 14 2 x|patch 17 2 x|patch 20 1 x|patch 22 2 x|patch 25 2 x|patch 30 1 x|patch 33 2 x|patch 36 1 x")
	wantAssembled(t, "section a,rom0|  ld   a ,  [hl+] ; c|x:ld a , 5", "section a 0 -1 -1 2A3E00|patch 2 1 5|symbol x 0 1 0")
	wantRefused(t, impl.AsForm, 2, "section a,rom0|fly", "section a,rom0|nop 1", "section a,rom0|ld a", "section a,rom0|ld a,hl", "section a,rom0|jr z", "section a,rom0|ld a,5 + 1", "section a,rom0|ld a,", "section a,rom0|ld [ hl ],a", "section a,rom0|rst 8", "section a,rom0|ld a,high(hl)", "section a,rom0|call bank(c)", "section a,work|fly")
	wantRefused(t, impl.AsForm, 1, "fly", "ld a,hl", "nop nop")
	wantRefused(t, impl.AsSection, 1, "nop", "ld a,5", "jr x", "bit 1,a")
	wantRefused(t, impl.AsSection, 2, "section a,work|nop", "section a,work|ld a,5", "def x,1|jr x", "section a,work|x: nop")
	wantRefused(t, impl.AsSection, 3, "section a,rom0|section b,work|nop")
	for code := range int64(256) {
		for _, cb := range []bool{false, true} {
			template := impl.TemplateOf(code, cb)
			if template == "" {
				continue
			}
			s := rightObject(t, sourceOf("section a,rom0|db 1|"+template)).Sections[0]
			if s.Data[1:] != impl.InsBytes(impl.Ins{Code: code, Cb: cb}) {
				t.Errorf("%q: %q", template, s.Data)
			}
			hole := holeShape.FindString(template)
			if hole == "" {
				if len(s.Patches) != 1 {
					t.Errorf("%q: %v", template, s.Patches)
				}
				continue
			}
			kind := map[string]int64{"n8": impl.PaByte, "n16": impl.PaWord, "e8": impl.PaByte}[hole]
			if strings.HasPrefix(template, "jr") {
				kind = impl.PaRel
			}
			if p := s.Patches[1]; len(s.Patches) != 2 || p.At != 2 || p.Kind != kind || impl.ExprText(p.Expr) != hole {
				t.Errorf("%q: %v", template, s.Patches)
			}
		}
	}
}

func TestRoomInSections(t *testing.T) {
	for _, kind := range []string{"rom0", "romx"} {
		for word, size := range map[string]int{"nop": 1, "ld a,5": 2, "jp x": 3, "db 1": 1, "dw 1": 2, "bit 1,a": 2, "db 1,2,3": 3, "ds 5": 5} {
			head := "section a," + kind + "|ds "
			wantSourceRight(t, head+strconv.Itoa(256-size)+"|"+word)
			wantRefused(t, impl.AsFull, 3, head+strconv.Itoa(257-size)+"|"+word, head+"256|"+word)
		}
	}
	for kind, base := range map[string]int{"rom0": 0, "romx": 256, "work": 49152} {
		for _, room := range []int{0, 1, 2, 3, 100, 255, 256} {
			head := fmt.Sprintf("section a,%s,%d|", kind, base+256-room)
			wantSourceRight(t, head, fmt.Sprintf("%sds %d", head, room))
			if room < 256 {
				wantRefused(t, impl.AsFull, 2, fmt.Sprintf("%sds %d", head, room+1), head+"ds 256")
			}
			wantRefused(t, impl.AsFull, 3, fmt.Sprintf("%sds %d|ds 1", head, room))
			if kind != "work" {
				wantRefused(t, impl.AsFull, 3, fmt.Sprintf("%sds %d|nop", head, room), fmt.Sprintf("%sds %d|db 1", head, room))
			}
		}
	}
	// Each patch has a byte, so there are as many as bytes at most.
	full := "section a,rom0|rept 16|db 0,1,2,3,4,5,6,7,8,9,10,11,12,13,14,15|endr"
	if o := rightObject(t, sourceOf(full)); len(o.Sections[0].Patches) != 256 || o.Sections[0].Patches[255].At != 255 {
		t.Error(o)
	}
	wantRefused(t, impl.AsFull, 18, full+"|db 1", full+"|nop", full+"|ds 1")
	wantSourceRight(t, full+"|ds 0|x:|section b,rom0|nop")
}

func TestTheFirstWrongLineIsTold(t *testing.T) {
	wantRefused(t, impl.AsForm, 1, "fly|nop|x:", "fly|section a,rom0|section a,rom0")
	wantRefused(t, impl.AsSection, 1, "nop|fly", "x: fly|fly")
	wantRefused(t, impl.AsTwice, 2, "section a,rom0|section a,rom0|fly|nop")
	wantRefused(t, impl.AsFull, 3, "section a,rom0|ds 256|nop|fly|def k,j")
	wantRefused(t, impl.AsName, 2, "section a,rom0|def k,j|fly")
	wantRefused(t, impl.AsForm, 3, "export x|section a,rom0|fly|def k,j")
	// In one line the label comes first.
	wantRefused(t, impl.AsTwice, 3, "section a,rom0|x:|x: fly")
	wantRefused(t, impl.AsForm, 3, "section a,rom0|x:|hl: section a,rom0")
}

// modelAssembly is an object so far, its symbols and sections by name.
type modelAssembly struct {
	names   []string
	parts   map[string]*impl.Section
	syms    map[string]impl.OSym
	asserts []eList
	exports [][2]string
	label   string
}

func (a *modelAssembly) full(s string) string {
	if strings.HasPrefix(s, ".") {
		return a.label + s
	}
	return s
}

func (a *modelAssembly) expr(source string) (eList, bool) {
	e, ok := impl.Compiled(source)
	if !ok || registerIn(e) {
		return nil, false
	}
	for k, n := range e {
		e[k].Name = a.full(n.Name)
	}
	return e, impl.ExprOk(e)
}

func (a *modelAssembly) number(source string, syms []impl.Sym) (int64, bool) {
	e, ok := a.expr(source)
	n, code := impl.EvalExpr(e, syms)
	return n, ok && code == 0
}

func (a *modelAssembly) symbol(s impl.OSym) int64 {
	if !impl.NameOk(s.Name) || slices.Contains(registers, s.Name) {
		return 1
	}
	if _, there := a.syms[s.Name]; there {
		return 3
	}
	if len(a.syms) >= 200 {
		return 5
	}
	a.syms[s.Name] = s
	return 0
}

func (a *modelAssembly) put(data string, space bool, patches ...impl.Patch) int64 {
	if len(a.names) == 0 {
		return 2
	}
	s := a.parts[a.names[len(a.names)-1]]
	if s.Kind == 2 && !space {
		return 2
	}
	for _, p := range patches {
		p.At += int64(len(s.Data))
		s.Patches = append(s.Patches, p)
	}
	s.Data += data
	// A section that was right, and is not any more, has grown too great.
	if !modelSectionOk(*s) {
		return 5
	}
	return 0
}

func (a *modelAssembly) section(args []string) int64 {
	if len(args) < 2 || len(args) > 4 {
		return 1
	}
	kind := slices.Index([]string{"rom0", "romx", "work"}, args[1])
	s := impl.Section{Name: args[0], Kind: int64(kind), Addr: -1, Bank: -1}
	for k, arg := range args[2:] {
		n, ok := a.number(arg, nil)
		if !ok || n < 0 {
			return 1
		}
		if k == 0 {
			s.Addr = n
		} else {
			s.Bank = n
		}
	}
	switch {
	case !modelSectionOk(s):
		return 1
	case a.parts[s.Name] != nil:
		return 3
	case len(a.names) >= 12:
		return 5
	}
	a.parts[s.Name] = &s
	a.names = append(a.names, s.Name)
	a.label = ""
	return 0
}

func (a *modelAssembly) def(args []string) int64 {
	if len(args) != 2 {
		return 1
	}
	if _, ok := a.expr(args[1]); !ok {
		return 1
	}
	var constants []impl.Sym
	for _, s := range a.syms {
		if s.Sect == -1 {
			constants = append(constants, impl.Sym{Name: s.Name, Value: s.At})
		}
	}
	n, ok := a.number(args[1], constants)
	if !ok {
		return 4
	}
	return a.symbol(impl.OSym{Name: args[0], Sect: -1, At: n})
}

func (a *modelAssembly) data(args []string, kind int64) int64 {
	for _, arg := range args {
		e, ok := a.expr(arg)
		if !ok {
			return 1
		}
		if code := a.put("\x00\x00"[:kind], false, impl.Patch{Kind: kind, Expr: e}); code != 0 {
			return code
		}
	}
	return set(1, len(args) == 0)
}

func (a *modelAssembly) instruction(text string) int64 {
	i, hole, e, ok := modelFitting(text)
	for k, n := range e {
		e[k].Name = a.full(n.Name)
		ok = ok && len(e[k].Name) <= 16
	}
	if !ok {
		return 1
	}
	kind := map[string]int64{"n8": 1, "n16": 2, "e8": 1}[hole]
	if strings.HasPrefix(text, "jr ") {
		kind = 3
	}
	if hole == "" {
		return a.put(modelBytes(i), false)
	}
	return a.put(modelBytes(i), false, impl.Patch{At: 1, Kind: kind, Expr: e})
}

func (a *modelAssembly) labelled(label string) int64 {
	if len(a.names) == 0 {
		return 2
	}
	if strings.HasPrefix(label, ".") {
		if a.label == "" {
			return 1
		}
	} else {
		a.label = label
	}
	last := len(a.names) - 1
	return a.symbol(impl.OSym{Name: a.full(label), Sect: int64(last), At: int64(len(a.parts[a.names[last]].Data))})
}

func (a *modelAssembly) act(l impl.Line, line int) int64 {
	var args []string
	if l.Args != "" {
		args = strings.Split(l.Args, ",")
	}
	switch l.Op {
	case "":
		return 0
	case "section":
		return a.section(args)
	case "db":
		return a.data(args, 1)
	case "dw":
		return a.data(args, 2)
	case "ds":
		n, ok := a.number(l.Args, nil)
		if !ok || n < 0 || n > 256 {
			return 1
		}
		return a.put(strings.Repeat("\x00", int(n)), true)
	case "def":
		return a.def(args)
	case "export":
		a.exports = append(a.exports, [2]string{l.Args, strconv.Itoa(line)})
		return set(1, len(args) != 1 || !impl.NameOk(l.Args))
	case "assert":
		e, ok := a.expr(l.Args)
		a.asserts = append(a.asserts, e)
		if ok && len(a.asserts) > 12 {
			return 5
		}
		return set(1, !ok)
	}
	return a.instruction(strings.TrimSuffix(l.Op+" "+l.Args, " "))
}

func modelAssembled(source string) (impl.Object, int64, int64) {
	none := impl.Object{}
	if len(source) > 40000 || strings.Count(source, "\n") > 1500 || source != "" && source[len(source)-1] != '\n' {
		return none, 1, 0
	}
	lines, code := modelExpanded(strings.Split(source, "\n")[:strings.Count(source, "\n")])
	if code != 0 || slices.ContainsFunc(strings.Split(source, "\n"), func(s string) bool { return len(s) > 80 }) {
		return none, 6, 0
	}
	a := modelAssembly{parts: map[string]*impl.Section{}, syms: map[string]impl.OSym{}}
	for k, text := range lines {
		l, ok := modelReadLine(text)
		if !ok {
			return none, 1, int64(k) + 1
		}
		if l.Label != "" {
			code = a.labelled(l.Label)
		}
		if code == 0 {
			code = a.act(l, k+1)
		}
		if code != 0 {
			return none, code, int64(k) + 1
		}
	}
	for _, x := range a.exports {
		s, there := a.syms[x[0]]
		if !there {
			return none, 4, modelNumber(x[1])
		}
		s.Out = true
		a.syms[x[0]] = s
	}
	o := impl.Object{Asserts: a.asserts}
	for _, s := range a.names {
		o.Sections = append(o.Sections, *a.parts[s])
	}
	for _, s := range a.syms {
		o.Syms = append(o.Syms, s)
	}
	slices.SortFunc(o.Syms, func(p, q impl.OSym) int { return strings.Compare(p.Name, q.Name) })
	return o, 0, 0
}

func someSourceExpr(d *dice) string {
	switch d.below(8) {
	case 0:
		return registers[d.below(len(registers))]
	case 1:
		return noRegisters[d.below(len(noRegisters))]
	case 2:
		e := exprPool[d.below(len(exprPool))].source
		return e[:min(len(e), 40)]
	case 3:
		return someOf(d, "", "(", "1%0", "65536", "-1", "1 1", "256", "300", "bank(.x)", "abcdefghijklmnop")
	}
	return someOf(d, "0", "1", "2", "5", "7", "x", "y", "z1", ".x", ".y", "x.x", "k", "j", "k+j", "high(x)", "bank(y)", "-k", "x+.y*2", "$FF", "%101")
}

// someAsmLine is a right one mostly, unless it is wild.
func someAsmLine(d *dice, wild bool) string {
	label := ""
	if d.below(4) == 0 {
		label = someOf(d, "x", "y", "z1", ".x", ".y", ".", "x.x", "k", "w"+strconv.Itoa(d.below(50)), "w"+strconv.Itoa(d.below(50))) + ": "
	}
	e := func() string {
		if wild {
			return someSourceExpr(d)
		}
		return someOf(d, "0", "1", "x", ".y", "k", "high(x)", "bank(.y)", "-k", "$FF")
	}
	number := func() string {
		if wild {
			return someSourceExpr(d)
		}
		return strconv.Itoa(d.below(20))
	}
	switch d.below(16) {
	case 0:
		kind := d.below(3)
		s := "section s" + strconv.Itoa(d.below(40)) + "," + []string{"rom0", "romx", "work"}[kind]
		if d.below(2) == 0 {
			s += "," + strconv.Itoa(int(baseOfKind[kind])+d.below(258+d.below(5)))
			if kind == 1 && d.below(2) == 0 || wild && d.below(8) == 0 {
				s += "," + strconv.Itoa(1+d.below(15))
			}
		}
		return label + s
	case 1, 2:
		return label + someOf(d, "db ", "dw ") + e()
	case 3:
		return label + someOf(d, "db ", "dw ") + e() + "," + e() + "," + e()
	case 4:
		return label + "ds " + number()
	case 5:
		return label + "def " + someOf(d, "k", "j", "i", ".k", "c"+strconv.Itoa(d.below(90)), "c"+strconv.Itoa(d.below(90))) + "," + number()
	case 6:
		return label + "export " + someOf(d, "x", "y", "k", "j", "x.x")
	case 7:
		return label + "assert " + e()
	case 8:
		return strings.TrimSuffix(label, " ")
	case 9, 10:
		return label + impl.InsText(impl.Ins{Code: int64(d.below(256)), Cb: d.below(2) == 0})
	}
	o := openBook[d.below(len(openBook))]
	return label + strings.Replace(impl.TemplateOf(o.code, false), o.hole, e(), 1)
}

func someAsmSource(d *dice) string {
	wild := d.below(3) == 0
	lines := []string{"section main," + someOf(d, "rom0", "romx", "romx,300", "rom0,0", "romx,256,2"), "x:", "def k,5"}
	if d.below(10) == 0 {
		lines = lines[d.below(3):]
	}
	for range d.below(25) {
		line := someAsmLine(d, wild)
		if d.below(12) == 0 {
			lines = append(lines, "rept "+strconv.Itoa(d.below(4)), strings.TrimSpace(line[strings.Index(line, ":")+1:]), "endr")
			continue
		}
		lines = append(lines, line)
	}
	if d.below(20) == 0 {
		lines = append(lines, "ds "+strconv.Itoa(240+d.below(17)), someAsmLine(d, wild), someAsmLine(d, wild))
	}
	if d.below(40) == 0 {
		lines = append(lines, someOf(d, "endr", "rept 2", strings.Repeat("x", 81), "fly", "\xff"))
	}
	return strings.Join(lines, "\n") + someOf(d, "\n", "\n", "\n", "\n", "\n", "\n", "\n", "\n", "\n", "")
}

func TestAssembledAgainstTheModel(t *testing.T) {
	d := dice(102)
	var told [7]int
	for range 20000 {
		source := someAsmSource(&d)
		want, code, line := modelAssembled(source)
		o, c, n := impl.Assembled(source)
		if c != code || n != line || !sameObject(o, want) {
			t.Fatalf("Assembled(%q) = %v, %d, %d, want %v, %d, %d", source, o, c, n, want, code, line)
		}
		told[code]++
	}
	for code, n := range told {
		if n < 100 {
			t.Error("too few told", code, n)
		}
	}
	if told[0] < 2000 {
		t.Error("too few right ones", told)
	}
}

// opNameShape finds the names that P9 leaves out.
var opNameShape = regexp.MustCompile(`\b(neg|not|high|low)\b`)

// P10: what is assembled is a right object; P9: it comes back from its text.
func TestWhatIsAssembledIsARightObject(t *testing.T) {
	d := dice(103)
	asked := 0
	for range 10000 {
		source := someAsmSource(&d)
		o, code, line := impl.Assembled(source)
		if code != impl.AsOk {
			if line < 0 || !reflect.DeepEqual(o, impl.Object{}) {
				t.Fatalf("%q: %v with %d, %d", source, o, code, line)
			}
			continue
		}
		asked++
		if !impl.ObjectOk(o) || !modelObjectOk(o) || line != 0 {
			t.Fatalf("%q is assembled to %v, %d", source, o, line)
		}
		text := impl.ObjectText(o)
		if opNameShape.MatchString(strings.NewReplacer("high(", "", "low(", "").Replace(source)) {
			continue
		}
		if back, ok := impl.ReadObject(text); !ok || !sameObject(back, o) {
			t.Fatalf("%q: %q comes back as %v, %v", source, text, back, ok)
		}
	}
	if asked < 1000 {
		t.Error("too few were asked", asked)
	}
}

func TestAssembledOfAnyBytes(t *testing.T) {
	d := dice(104)
	for range 3000 {
		source := someAsmSource(&d)
		for range 1 + d.below(3) {
			at := d.below(len(source))
			source = source[:at] + someOf(&d, "\n", " ", "\x00", "\x80", "\xff", ",", ":", ".", "(", ";", "\\1", "hl", "") + source[min(len(source), at+d.below(2)):]
		}
		want, code, line := modelAssembled(source)
		if o, c, n := impl.Assembled(source); c != code || n != line || !sameObject(o, want) {
			t.Fatalf("Assembled(%q) = %v, %d, %d, want %v, %d, %d", source, o, c, n, want, code, line)
		}
		wantModelFit(t, bytesOf(&d, d.below(20)))
	}
}

// P19: the same source gives the same object, and none of its lists is another one's.
func TestWhatIsAssembledIsNewMemory(t *testing.T) {
	d := dice(105)
	asked := 0
	for range 2000 {
		source := someAsmSource(&d)
		first, code, line := impl.Assembled(source)
		second, code2, line2 := impl.Assembled(source)
		if code != code2 || line != line2 || !sameObject(first, second) {
			t.Fatalf("%q: %v and %v", source, first, second)
		}
		if code != impl.AsOk {
			continue
		}
		asked++
		was := wholeObject(second)
		listsApart(t, first)
		for k := range first.Syms {
			first.Syms[k] = impl.OSym{}
		}
		for k := range first.Sections {
			first.Sections[k] = impl.Section{}
		}
		third, _, _ := impl.Assembled(source)
		if !reflect.DeepEqual(wholeObject(second), was) || !sameObject(third, second) {
			t.Fatalf("%q: two answers share memory", source)
		}
	}
	if asked < 200 {
		t.Error("too few were asked", asked)
	}
	_, _, first, _ := impl.Fitting("ld a,x+1")
	_, _, second, _ := impl.Fitting("ld a,x+1")
	first[0].Name = "other"
	if second[0].Name != "x" {
		t.Error("two answers share memory")
	}
}

func TestAssembledEndsWhateverItIsGiven(t *testing.T) {
	rightObject(t, "section a,rom0\nrept 1499\nds 0\nendr\n")
	wantSourceRefused(t, "section a,rom0\nrept 1498\nds 0+0+0+0+0+0+0+0\nendr\nfly\n", impl.AsForm, 1500)
	wantSourceRefused(t, "section a,rom0\nrept 1000\nset 7,a\nendr\n", impl.AsFull, 130)
	labels := ""
	for k := range 200 {
		labels += fmt.Sprintf("def c%d,%d\n", k, k)
	}
	wantSourceRefused(t, labels+strings.Repeat("export c199\n", 1299)+"export d1\n", impl.AsName, 1500)
	wantSourceRefused(t, "section a,rom0\n"+labels+strings.Repeat("x:\n", 2), impl.AsFull, 202)
}
