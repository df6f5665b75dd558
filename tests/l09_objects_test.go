package tests

import (
	"fmt"
	"math"
	"reflect"
	"regexp"
	"slices"
	"strconv"
	"strings"
	"testing"

	"loop.example/g00460/impl"
)

// farNumbers are wrong in every field of an object but for a constant's At.
var farNumbers = []int64{-2, -129, -65536, -1 << 32, math.MinInt64, math.MinInt64 + 1, 65536, 1 << 32, math.MaxInt64 - 1, math.MaxInt64}

var wrongNames = []string{"", "A", "1", "a b", "a-b", "#a", " a", "a ", "a\n", "\x00", "\x7f", "\x80", "\xff", "é", "abcdefghijklmnopq", strings.Repeat("x", 1000)}

var wrongExprs = []eList{
	nil, {}, nodes(num(-1)), nodes(num(65536)), nodes(num(math.MinInt64)), nodes(num(math.MaxInt64)), nodes(name("A")), nodes(name("")), nodes(bank("\xff")),
	nodes(num(1), num(2)), nodes(op(impl.ExAdd)), nodes(num(1), op(impl.ExAdd)), nodes(op(0)), nodes(op(-1)), nodes(op(18)), nodes(num(1), op(math.MaxInt64)),
	slices.Concat(nodes(num(1)), slices.Repeat(nodes(op(impl.ExNeg)), 30)), nodes(impl.ENode{Kind: impl.ExName, N: 1, Name: "a"}),
}

// baseOfKind is where the sections of each kind begin.
var baseOfKind = []int64{0, 256, 49152}

func modelSectionOk(s impl.Section) bool {
	if !nameShape.MatchString(s.Name) || s.Kind < 0 || s.Kind > 2 {
		return false
	}
	if s.Addr != -1 && (s.Addr < baseOfKind[s.Kind] || s.Addr > 65535 || s.Addr-baseOfKind[s.Kind]+int64(len(s.Data)) > 256) {
		return false
	}
	if s.Bank != -1 && (s.Kind != 1 || s.Bank < 1 || s.Bank > 15) {
		return false
	}
	if s.Kind == 2 && (len(s.Patches) > 0 || strings.Count(s.Data, "\x00") != len(s.Data)) {
		return false
	}
	for _, p := range s.Patches {
		size := map[int64]int64{1: 1, 2: 2, 3: 1}[p.Kind]
		if size == 0 || p.At < 0 || p.At >= 256 || p.At+size > int64(len(s.Data)) || !impl.ExprOk(p.Expr) {
			return false
		}
	}
	return len(s.Data) <= 256 && len(s.Patches) <= 256
}

func modelSymOk(o impl.Object, s impl.OSym) bool {
	if !nameShape.MatchString(s.Name) {
		return false
	}
	if s.Sect == -1 {
		return int64(int32(s.At)) == s.At
	}
	return s.Sect >= 0 && s.Sect < int64(len(o.Sections)) && s.At >= 0 && s.At <= int64(len(o.Sections[s.Sect].Data))
}

func modelObjectOk(o impl.Object) bool {
	names := map[string]bool{}
	for _, s := range o.Sections {
		if !modelSectionOk(s) {
			return false
		}
	}
	for _, s := range o.Syms {
		if names[s.Name] || !modelSymOk(o, s) {
			return false
		}
		names[s.Name] = true
	}
	rising := slices.IsSortedFunc(o.Syms, func(a, b impl.OSym) int { return strings.Compare(a.Name, b.Name) })
	wrong := slices.ContainsFunc(o.Asserts, func(e eList) bool { return !impl.ExprOk(e) })
	return rising && !wrong && len(o.Sections) <= 12 && len(o.Syms) <= 200 && len(o.Asserts) <= 12
}

func modelObjectText(o impl.Object) string {
	text := ""
	for _, s := range o.Sections {
		text += fmt.Sprintf("section %s %d %d %d %X\n", s.Name, s.Kind, s.Bank, s.Addr, s.Data)
		for _, p := range s.Patches {
			text += fmt.Sprintf("patch %d %d %s\n", p.At, p.Kind, impl.ExprText(p.Expr))
		}
	}
	for _, s := range o.Syms {
		text += fmt.Sprintf("symbol %s %d %d %d\n", s.Name, s.Sect, s.At, set(1, s.Out))
	}
	for _, e := range o.Asserts {
		text += fmt.Sprintf("assert %s\n", impl.ExprText(e))
	}
	return text
}

var (
	nameShape    = regexp.MustCompile(`^[a-z_.][a-z0-9_.]{0,15}$`)
	sectionShape = regexp.MustCompile(`^section (\S*) (0|-?[1-9]\d*) (0|-?[1-9]\d*) (0|-?[1-9]\d*) ((?:[0-9A-F][0-9A-F])*)$`)
	patchShape   = regexp.MustCompile(`^patch (0|-?[1-9]\d*) (0|-?[1-9]\d*) (.+)$`)
	symbolShape  = regexp.MustCompile(`^symbol (\S*) (0|-?[1-9]\d*) (0|-?[1-9]\d*) ([01])$`)
	assertShape  = regexp.MustCompile(`^assert (.+)$`)
	// What a text has, a letter a line: sections with their patches, then symbols, then asserts.
	orderShape = regexp.MustCompile(`^(sp*)*y*a*$`)
)

func modelNumber(s string) int64 {
	n, err := strconv.ParseInt(s, 10, 64)
	if err != nil {
		return math.MinInt64
	}
	return n
}

// modelReadObject takes a text apart by shapes.
func modelReadObject(text string) (o impl.Object, ok bool) {
	if len(text) > 60000 || text != "" && !strings.HasSuffix(text, "\n") {
		return impl.Object{}, false
	}
	order := ""
	for _, line := range strings.SplitAfter(text, "\n") {
		line = strings.TrimSuffix(line, "\n")
		if m := sectionShape.FindStringSubmatch(line); m != nil {
			data := ""
			fmt.Sscanf(m[5], "%X", &data)
			o.Sections = append(o.Sections, impl.Section{Name: m[1], Kind: modelNumber(m[2]), Bank: modelNumber(m[3]), Addr: modelNumber(m[4]), Data: data})
			order += "s"
		} else if m := patchShape.FindStringSubmatch(line); m != nil && len(o.Sections) > 0 {
			e, _ := impl.ReadExpr(m[3])
			s := len(o.Sections) - 1
			o.Sections[s].Patches = append(o.Sections[s].Patches, impl.Patch{At: modelNumber(m[1]), Kind: modelNumber(m[2]), Expr: e})
			order += "p"
		} else if m := symbolShape.FindStringSubmatch(line); m != nil {
			o.Syms = append(o.Syms, impl.OSym{Name: m[1], Sect: modelNumber(m[2]), At: modelNumber(m[3]), Out: m[4] == "1"})
			order += "y"
		} else if m := assertShape.FindStringSubmatch(line); m != nil {
			e, _ := impl.ReadExpr(m[1])
			o.Asserts = append(o.Asserts, e)
			order += "a"
		} else if order += "?"; line == "" {
			order = strings.TrimSuffix(order, "?")
		}
	}
	// An empty line was passed over above, so lines are counted.
	if len(order) != strings.Count(text, "\n") || !orderShape.MatchString(order) || !modelObjectOk(o) {
		return impl.Object{}, false
	}
	return o, true
}

// wholeList has a copy of a list and of the room behind it.
func wholeList[T any](list []T) []T { return slices.Clone(list[:cap(list)]) }

// wholeObject has all that can be reached from an object, spare room and all.
func wholeObject(o impl.Object) impl.Object {
	w := impl.Object{Sections: wholeList(o.Sections), Syms: wholeList(o.Syms), Asserts: wholeList(o.Asserts)}
	for k, s := range w.Sections {
		w.Sections[k].Patches = wholeList(s.Patches)
		for n, p := range w.Sections[k].Patches {
			w.Sections[k].Patches[n].Expr = wholeList(p.Expr)
		}
	}
	for k, e := range w.Asserts {
		w.Asserts[k] = wholeList(e)
	}
	return w
}

func spared[T any](list []T, mark T) []T {
	given, _, _ := guarded(list, mark)
	return given
}

// sparedObject is the object with marks in the room behind each of its lists.
func sparedObject(o impl.Object) impl.Object {
	node := impl.ENode{Kind: 99, N: 99, Name: "mark"}
	w := impl.Object{Sections: spared(o.Sections, impl.Section{Name: "mark"}), Syms: spared(o.Syms, impl.OSym{Name: "mark"}), Asserts: spared(o.Asserts, nil)}
	for k, s := range w.Sections {
		w.Sections[k].Patches = spared(s.Patches, impl.Patch{At: 99})
		for n, p := range w.Sections[k].Patches {
			w.Sections[k].Patches[n].Expr = spared(p.Expr, node)
		}
	}
	for k, e := range w.Asserts {
		w.Asserts[k] = spared(e, node)
	}
	return w
}

// sameObject holds an empty list and none for the same.
func sameObject(a, b impl.Object) bool {
	samePatch := func(p, q impl.Patch) bool {
		return p.At == q.At && p.Kind == q.Kind && slices.Equal(p.Expr, q.Expr)
	}
	sameSection := func(s, z impl.Section) bool {
		return s.Name == z.Name && s.Kind == z.Kind && s.Bank == z.Bank && s.Addr == z.Addr && s.Data == z.Data && slices.EqualFunc(s.Patches, z.Patches, samePatch)
	}
	return slices.EqualFunc(a.Sections, b.Sections, sameSection) && slices.Equal(a.Syms, b.Syms) && slices.EqualFunc(a.Asserts, b.Asserts, slices.Equal[eList])
}

// brief is enough of a thing to tell it by.
func brief(v any) string { return fmt.Sprintf("%.300s", fmt.Sprintf("%q", fmt.Sprint(v))) }

// wantObject asks every function of the chapter for its answers to an object, and whether it is as it was behind that.
func wantObject(t *testing.T, o impl.Object, right bool) {
	t.Helper()
	given := sparedObject(o)
	before := wholeObject(given)
	text := ""
	if right {
		text = modelObjectText(o)
	}
	if impl.ObjectOk(given) != right || impl.ObjectText(given) != text {
		t.Errorf("%s: ObjectOk %v, ObjectText %.300q, want %v", brief(o), impl.ObjectOk(given), impl.ObjectText(given), right)
	}
	for _, s := range given.Sections {
		impl.SectionOk(s)
	}
	if !reflect.DeepEqual(wholeObject(given), before) {
		t.Errorf("%s: the object was written into", brief(o))
	}
	if back, ok := impl.ReadObject(text); right && len(text) <= 60000 && (!ok || !sameObject(back, o)) {
		t.Errorf("%s: text %.300q comes back as %s, %v", brief(o), text, brief(back), ok)
	}
}

func wantSection(t *testing.T, s impl.Section, right bool) {
	t.Helper()
	if impl.SectionOk(s) != right {
		t.Errorf("SectionOk(%s) is %v", brief(s), !right)
	}
	if modelSectionOk(s) != right {
		t.Errorf("the model of %s is %v", brief(s), !right)
	}
	wantObject(t, impl.Object{Sections: []impl.Section{s}}, right)
	wantObject(t, impl.Object{Sections: []impl.Section{{Name: "first", Bank: -1, Addr: -1}, s, {Name: "last", Bank: -1, Addr: -1}}}, right)
}

func wantNoObject(t *testing.T, text string) {
	t.Helper()
	if o, ok := impl.ReadObject(text); ok || !reflect.DeepEqual(o, impl.Object{}) {
		t.Errorf("ReadObject(%.300q) = %s, %v, want none", text, brief(o), ok)
	}
}

func TestNumbersOfObjects(t *testing.T) {
	if impl.SeZero != 0 || impl.SeBank != 1 || impl.SeWork != 2 || impl.PaByte != 1 || impl.PaWord != 2 || impl.PaRel != 3 || impl.MaxSect != 12 || impl.MaxPats != 256 {
		t.Error("another number")
	}
}

func TestSectionsByTheirBytes(t *testing.T) {
	for kind := range int64(3) {
		for _, size := range []int{0, 1, 2, 255, 256, 257, 258, 512, 70000} {
			wantSection(t, impl.Section{Name: "a", Kind: kind, Bank: -1, Addr: -1, Data: strings.Repeat("\x00", size)}, size <= 256)
		}
		for _, at := range []int64{0, 1, 100, 254, 255} {
			for _, v := range []byte{1, 10, 48, 128, 255} {
				data := changed(strings.Repeat("\x00", 256), at, v)
				wantSection(t, impl.Section{Name: "a", Kind: kind, Bank: -1, Addr: -1, Data: data}, kind != impl.SeWork)
			}
		}
		for _, s := range wrongNames {
			wantSection(t, impl.Section{Name: s, Kind: kind, Bank: -1, Addr: -1}, false)
		}
		for _, s := range []string{"a", ".", "_", "hl", "neg", "section", "z.9", "abcdefghijklmnop"} {
			wantSection(t, impl.Section{Name: s, Kind: kind, Bank: -1, Addr: -1}, true)
		}
	}
	for _, kind := range append([]int64{-1, 3, 4, 255, 256}, farNumbers...) {
		for _, addr := range []int64{-1, 0, 256, 49152} {
			wantSection(t, impl.Section{Name: "a", Kind: kind, Bank: -1, Addr: addr}, false)
		}
	}
}

func TestSectionsByTheirAddr(t *testing.T) {
	for kind, base := range baseOfKind {
		for _, size := range []int{0, 1, 2, 100, 255, 256} {
			s := impl.Section{Name: "a", Kind: int64(kind), Bank: -1, Data: strings.Repeat("\x00", size)}
			last := base + 256 - int64(size)
			for addr := base - 3; addr < base+260; addr++ {
				s.Addr = addr
				wantSection(t, s, addr == -1 || addr >= base && addr <= last)
			}
			for _, addr := range farNumbers {
				s.Addr = addr
				wantSection(t, s, false)
			}
			for _, other := range baseOfKind {
				s.Addr = other + 1
				wantSection(t, s, other == base && s.Addr <= last)
			}
			s.Addr = math.MaxInt64 - int64(size)
			wantSection(t, s, false)
		}
	}
}

func TestSectionsByTheirBank(t *testing.T) {
	for kind, base := range baseOfKind {
		for bank := int64(-3); bank < 20; bank++ {
			right := bank == -1 || kind == impl.SeBank && bank >= 1 && bank <= 15
			wantSection(t, impl.Section{Name: "a", Kind: int64(kind), Bank: bank, Addr: -1}, right)
			wantSection(t, impl.Section{Name: "a", Kind: int64(kind), Bank: bank, Addr: base, Data: "\x00"}, right)
		}
		for _, bank := range farNumbers {
			wantSection(t, impl.Section{Name: "a", Kind: int64(kind), Bank: bank, Addr: -1}, false)
		}
	}
}

func TestHowManyPatchesASectionHas(t *testing.T) {
	for kind := range int64(3) {
		for _, many := range []int{0, 1, 2, 255, 256, 257, 1000} {
			s := impl.Section{Name: "a", Kind: kind, Bank: -1, Addr: -1, Data: strings.Repeat("\x00", 256)}
			for k := range many {
				s.Patches = append(s.Patches, impl.Patch{At: int64(k % 256), Kind: impl.PaByte, Expr: nodes(num(int64(k)))})
			}
			wantSection(t, s, many <= 256 && (many == 0 || kind != impl.SeWork))
			s.Data = "\x00"
			for k := range s.Patches {
				s.Patches[k].At = 0
			}
			wantSection(t, s, many <= 256 && (many == 0 || kind != impl.SeWork))
		}
	}
}

func TestPatches(t *testing.T) {
	one := nodes(num(7))
	with := func(size int, p impl.Patch) impl.Section {
		return impl.Section{Name: "a", Bank: -1, Addr: -1, Data: strings.Repeat("x", size), Patches: []impl.Patch{{At: 0, Kind: impl.PaByte, Expr: one}, p}}
	}
	for _, size := range []int{1, 2, 3, 255, 256} {
		for kind := int64(-1); kind < 6; kind++ {
			for at := int64(-2); at < 260; at++ {
				right := kind >= 1 && kind <= 3 && at >= 0 && at < int64(size)
				if kind == impl.PaWord && at == int64(size)-1 {
					right = false
				}
				wantSection(t, with(size, impl.Patch{At: at, Kind: kind, Expr: one}), right)
			}
			for _, at := range farNumbers {
				wantSection(t, with(size, impl.Patch{At: at, Kind: kind, Expr: one}), false)
				wantSection(t, with(size, impl.Patch{At: 0, Kind: at, Expr: one}), false)
			}
		}
		for _, e := range wrongExprs {
			wantSection(t, with(size, impl.Patch{At: 0, Kind: impl.PaByte, Expr: e}), false)
		}
	}
	for kind := range int64(5) {
		wantSection(t, impl.Section{Name: "a", Bank: -1, Addr: -1, Patches: []impl.Patch{{Kind: kind, Expr: one}}}, false)
	}
}

func TestHowManyAnObjectHas(t *testing.T) {
	for _, many := range []int{0, 1, 11, 12, 13, 14, 100} {
		var sections, alike impl.Object
		var asserts impl.Object
		for k := range many {
			sections.Sections = append(sections.Sections, impl.Section{Name: "s" + strconv.Itoa(k), Bank: -1, Addr: -1})
			alike.Sections = append(alike.Sections, impl.Section{Name: "s", Bank: -1, Addr: 0, Data: "x"})
			asserts.Asserts = append(asserts.Asserts, nodes(num(int64(k))))
		}
		wantObject(t, sections, many <= 12)
		wantObject(t, alike, many <= 12)
		wantObject(t, asserts, many <= 12)
		for k := range min(many, 12) {
			for _, e := range wrongExprs {
				other := sparedObject(asserts)
				other.Asserts[k] = e
				wantObject(t, other, false)
			}
			other := sparedObject(sections)
			other.Sections[k].Kind = 3
			wantObject(t, other, false)
		}
	}
	for _, many := range []int{1, 199, 200, 201, 202, 500} {
		var o impl.Object
		for k := range many {
			o.Syms = append(o.Syms, impl.OSym{Name: fmt.Sprintf("s%03d", k), Sect: -1, At: int64(k), Out: k%2 == 0})
		}
		wantObject(t, o, many <= 200)
	}
}

func TestSymbolsOfObjects(t *testing.T) {
	sections := []impl.Section{{Name: "a", Bank: -1, Addr: -1, Data: "xyz"}, {Name: "b", Kind: impl.SeWork, Bank: -1, Addr: -1}, {Name: "c", Kind: impl.SeBank, Bank: 1, Addr: -1, Data: strings.Repeat("x", 256)}}
	with := func(syms ...impl.OSym) impl.Object { return impl.Object{Sections: sections, Syms: syms} }
	for sect := int64(-4); sect < 8; sect++ {
		for _, at := range append([]int64{-1, 0, 1, 2, 3, 4, 255, 256, 257}, farNumbers...) {
			right := sect == -1 && at == int64(int32(at))
			if sect >= 0 && sect < 3 {
				right = at >= 0 && at <= []int64{3, 0, 256}[sect]
			}
			for _, out := range []bool{false, true} {
				wantObject(t, with(impl.OSym{Name: "k", Sect: sect, At: at, Out: out}), right)
				wantObject(t, with(impl.OSym{Name: "j", Sect: -1}, impl.OSym{Name: "k", Sect: sect, At: at, Out: out}, impl.OSym{Name: "l", Sect: 2, At: 256}), right)
			}
		}
	}
	for _, sect := range farNumbers {
		wantObject(t, with(impl.OSym{Name: "k", Sect: sect}), false)
	}
	for _, at := range []int64{math.MinInt32, math.MinInt32 + 1, -1, 0, math.MaxInt32 - 1, math.MaxInt32} {
		wantObject(t, with(impl.OSym{Name: "k", Sect: -1, At: at}), true)
		wantObject(t, impl.Object{Syms: []impl.OSym{{Name: "k", Sect: -1, At: at}}}, true)
	}
	for _, at := range []int64{math.MinInt32 - 1, math.MaxInt32 + 1, math.MinInt64, math.MaxInt64} {
		wantObject(t, with(impl.OSym{Name: "k", Sect: -1, At: at}), false)
	}
	for _, s := range wrongNames {
		wantObject(t, with(impl.OSym{Name: s, Sect: -1}), false)
	}
	wantObject(t, impl.Object{Syms: []impl.OSym{{Name: "k", Sect: 0}}}, false)
}

func TestSymbolsRise(t *testing.T) {
	for _, r := range []struct {
		names string
		right bool
	}{
		{"a b", true}, {"b a", false}, {"a a", false}, {"a b b", false}, {"a b a", false}, {"a c b", false}, {"a aa ab b", true}, {"aa a", false},
		{". .a _ a a. a.b a0 a_ b", true}, {"_ .", false}, {"a0 a.", false}, {"a_ a0", false}, {"a10 a2", true}, {"a2 a10", false}, {"high low neg not", true}, {"low high", false},
	} {
		var o impl.Object
		for _, s := range strings.Fields(r.names) {
			o.Syms = append(o.Syms, impl.OSym{Name: s, Sect: -1})
		}
		wantObject(t, o, r.right)
	}
}

func TestTextsOfObjects(t *testing.T) {
	e := nodes(name("x"), num(1), op(impl.ExAdd))
	for want, o := range map[string]impl.Object{
		"":                          {},
		"section a 0 -1 -1 \n":      {Sections: []impl.Section{{Name: "a", Bank: -1, Addr: -1}}},
		"section a 0 -1 0 00\n":     {Sections: []impl.Section{{Name: "a", Bank: -1, Data: "\x00"}}},
		"section .x 1 15 256 \n":    {Sections: []impl.Section{{Name: ".x", Kind: 1, Bank: 15, Addr: 256}}},
		"section w 2 -1 49408 \n":   {Sections: []impl.Section{{Name: "w", Kind: 2, Bank: -1, Addr: 49408}}},
		"symbol k -1 -5 0\n":        {Syms: []impl.OSym{{Name: "k", Sect: -1, At: -5}}},
		"symbol k -1 0 1\n":         {Syms: []impl.OSym{{Name: "k", Sect: -1, Out: true}}},
		"assert x 1 +\n":            {Asserts: []eList{e}},
		"assert 7\nassert #x 0 /\n": {Asserts: []eList{nodes(num(7)), nodes(bank("x"), num(0), op(impl.ExDiv))}},
		"section a 0 -1 -1 FF0A9F\npatch 2 3 x 1 +\npatch 1 2 0\npatch 0 1 x neg\nsection b 0 -1 -1 \nsymbol k 0 3 0\nsymbol l 1 0 1\nassert x\n": {
			Sections: []impl.Section{
				{Name: "a", Bank: -1, Addr: -1, Data: "\xff\x0a\x9f", Patches: []impl.Patch{{At: 2, Kind: 3, Expr: e}, {At: 1, Kind: 2, Expr: nodes(num(0))}, {At: 0, Kind: 1, Expr: nodes(name("x"), op(impl.ExNeg))}}},
				{Name: "b", Bank: -1, Addr: -1}},
			Syms:    []impl.OSym{{Name: "k", At: 3}, {Name: "l", Sect: 1, Out: true}},
			Asserts: []eList{nodes(name("x"))}},
	} {
		if text := impl.ObjectText(o); text != want {
			t.Errorf("%v: %q, want %q", o, text, want)
		}
		wantObject(t, o, true)
	}
	if o, ok := impl.ReadObject(""); !ok || !reflect.DeepEqual(o, impl.Object{}) {
		t.Error("without anything", o, ok)
	}
}

func TestReadObjectWrong(t *testing.T) {
	for _, s := range []string{
		"\n", " ", " \n", "x", "x\n", "section\n", "section \n", "symbol\n", "patch\n", "assert\n", "assert \n", "assert  7\n", "assert 7 \n", " assert 7\n", "assert 07\n", "assert 7", "assert 7\n\n", "\nassert 7\n", "assert 7\r\n", "assert\t7\n", "Assert 7\n", "asserts 7\n", "assert $7\n", "assert 1 2\n", "assert neg\n", "assert x +\n",
		"section a 0 -1 -1\n", "section a 0 -1 -1", "section a 0 -1 -1 ", "section a 0 -1 -1  \n", "section a 0 -1 -1 00 \n", "section  a 0 -1 -1 \n", "section a 00 -1 -1 \n", "section a 0 -01 -1 \n", "section a 0 -1 00 \n", "section a 0 -1 +0 \n", "section a -0 -1 0 \n", "section a 0 -1 -1 0\n", "section a 0 -1 -1 ab\n", "section a 0 -1 -1 aB\n", "section a 0 -1 -1 000\n", "section a 0 -1 -1 0G\n", "section a 0 -1 -1 $00\n", "section a 0 -1 -1 00 00\n", "section a 0 -1 \n", "section a 0 -1 -1 -1 00\n", "section A 0 -1 -1 \n", "section  0 -1 -1 \n", "section a 3 -1 -1 \n", "section a x -1 -1 \n", "section a 0  -1 -1 \n", "section a 0 0 -1 \n", "section a 1 16 -1 \n", "section a 1 -1 0 \n", "section a 2 -1 -1 01\n", "section a 0 -1 257 \n", "section a 0 -1 256 00\n", "section a 0 -1 9223372036854775808 \n", "section a 0 -1 -9223372036854775809 \n", "section a 0 99999999999999999999999 -1 \n",
		"patch 0 1 7\n", "symbol k -1 0 0\npatch 0 1 7\n", "section a 0 -1 -1 00\npatch 0 1\n", "section a 0 -1 -1 00\npatch 0 1 \n", "section a 0 -1 -1 00\npatch 0 1 07\n", "section a 0 -1 -1 00\npatch 00 1 7\n", "section a 0 -1 -1 00\npatch 0 01 7\n", "section a 0 -1 -1 00\npatch 0  1 7\n", "section a 0 -1 -1 00\npatch 0 1  7\n", "section a 0 -1 -1 00\npatch 0 1 7 \n", "section a 0 -1 -1 00\npatch 0 2 7\n", "section a 0 -1 -1 00\npatch 1 1 7\n", "section a 0 -1 -1 00\npatch -1 1 7\n", "section a 0 -1 -1 00\npatch 0 4 7\n", "section a 0 -1 -1 00\npatch x 1 7\n", "section a 0 -1 -1 00\npatch 0 1 7", "section a 2 -1 -1 00\npatch 0 1 7\n", "section a 0 -1 -1 00\n\npatch 0 1 7\n",
		"symbol k -1 0\n", "symbol k -1 0 2\n", "symbol k -1 0 01\n", "symbol k -1 0 -1\n", "symbol k -1 0 x\n", "symbol k -1 0 \n", "symbol k -1 0 0 0\n", "symbol k -1 0 0 \n", "symbol  k -1 0 0\n", "symbol k  -1 0 0\n", "symbol k -1 00 0\n", "symbol k -1 -0 0\n", "symbol k -1 +1 0\n", "symbol k 0 0 0\n", "symbol k -2 0 0\n", "symbol k -1 2147483648 0\n", "symbol k -1 -2147483649 0\n", "symbol K -1 0 0\n", "symbol l -1 0 0\nsymbol k -1 0 0\n", "symbol k -1 0 0\nsymbol k -1 0 0\n", "symbol k -1 0 0",
		"assert 7\nsymbol k -1 0 0\n", "symbol k -1 0 0\nsection a 0 -1 -1 \n", "assert 7\nsection a 0 -1 -1 \n", "symbol k 0 0 0\nsection a 0 -1 -1 \n", "section a 0 -1 -1 00\nsection b 0 -1 -1 \npatch 0 1 7\n", "section a 0 -1 -1 00\nassert 7\npatch 0 1 7\n", "section a 0 -1 -1 00\nsymbol k 0 0 0\npatch 0 1 7\n",
		"section \xff 0 -1 -1 \n", "\xff\n", "assert \x80\n", "symbol \xe9 -1 0 0\n", "section a 0 -1 -1 \x80\x80\n",
		strings.Repeat("assert 7\n", 13), strings.Repeat("section a 0 -1 -1 \n", 13), strings.Repeat("assert 7\n", 6000),
	} {
		wantNoObject(t, s)
	}
}

// textOfSize is the text of a right object, with so many bytes, 60000 or nearly.
func textOfSize(t *testing.T, size int) (impl.Object, string) {
	t.Helper()
	var o impl.Object
	left := size
	put := func(length int) {
		last := len(o.Sections) - 1
		if last < 0 || len(o.Sections[last].Patches) == 256 {
			o.Sections = append(o.Sections, impl.Section{Name: "s", Bank: -1, Addr: -1, Data: "x"})
			left -= len("section s 0 -1 -1 78\n")
			last++
		}
		o.Sections[last].Patches = append(o.Sections[last].Patches, impl.Patch{Kind: impl.PaByte, Expr: nodes(name(strings.Repeat("n", length)))})
		left -= len("patch 0 1 \n") + length
	}
	for left > 60 {
		put(16)
	}
	for left > 27 {
		put(1)
	}
	put(left - len("patch 0 1 \n"))
	text := impl.ObjectText(o)
	if len(text) != size {
		t.Fatal("another size", len(text))
	}
	return o, text
}

func TestReadObjectAtItsLimit(t *testing.T) {
	for size := 59990; size <= 60010; size++ {
		o, text := textOfSize(t, size)
		wantObject(t, o, true)
		if size > 60000 {
			wantNoObject(t, text)
		} else if back, ok := impl.ReadObject(text); !ok || !sameObject(back, o) {
			t.Error("does not come back", size)
		}
	}
	for _, s := range []string{"\n", "x", " ", "\x00", "assert 7\n"} {
		wantNoObject(t, strings.Repeat(s, 60001))
		wantNoObject(t, strings.Repeat(s, 60000/len(s)))
	}
}

var exprPool = madeExprs(91, 400)

func someExpr(d *dice) eList { return slices.Clone(exprPool[d.below(len(exprPool))].nodes) }

func someSection(d *dice) impl.Section {
	s := impl.Section{Name: someOf(d, "a", "b", "main", ".x", "neg", "abcdefghijklmnop"), Kind: int64(d.below(3)), Bank: -1, Addr: -1}
	size := []int{0, 1, 2, 5, 20, 255, 256}[d.below(7)]
	s.Data = bytesOf(d, size)
	if s.Kind == impl.SeWork {
		s.Data = strings.Repeat("\x00", size)
	}
	if s.Kind == impl.SeBank && d.below(2) == 0 {
		s.Bank = int64(1 + d.below(15))
	}
	if d.below(2) == 0 {
		s.Addr = baseOfKind[s.Kind] + int64(d.below(257-size))
	}
	if s.Kind == impl.SeWork || size < 2 {
		return s
	}
	for range d.below(5) {
		p := impl.Patch{Kind: int64(1 + d.below(3)), Expr: someExpr(d)}
		p.At = int64(d.below(size))
		if p.Kind == impl.PaWord {
			p.At = int64(d.below(size - 1))
		}
		s.Patches = append(s.Patches, p)
	}
	return s
}

func someObject(d *dice) impl.Object {
	var o impl.Object
	for range d.below([]int{2, 4, 13}[d.below(3)]) {
		o.Sections = append(o.Sections, someSection(d))
	}
	for k := range d.below([]int{2, 6, 201}[d.below(3)]) {
		s := impl.OSym{Name: fmt.Sprintf("s%03d%s", k, someOf(d, "", ".x", "_", "0")), Sect: int64(d.below(len(o.Sections)+1) - 1), Out: d.below(2) == 0}
		if s.Sect < 0 {
			s.At = []int64{0, 1, -1, 65535, math.MinInt32, math.MaxInt32, int64(int32(d.below(1 << 31)))}[d.below(7)]
		} else {
			s.At = int64(d.below(len(o.Sections[s.Sect].Data) + 1))
		}
		o.Syms = append(o.Syms, s)
	}
	for range d.below([]int{2, 4, 13}[d.below(3)]) {
		o.Asserts = append(o.Asserts, someExpr(d))
	}
	return o
}

// P9: a right object comes back from its text.
func TestRightObjectComesBackFromItsText(t *testing.T) {
	d := dice(92)
	for range 3000 {
		o := someObject(&d)
		text := impl.ObjectText(o)
		if !impl.ObjectOk(o) || text != modelObjectText(o) {
			t.Fatalf("%v has the text %q", o, text)
		}
		back, ok := impl.ReadObject(text)
		if !ok || !sameObject(back, o) || impl.ObjectText(back) != text {
			t.Fatalf("%q comes back as %v, %v", text, back, ok)
		}
		wantObject(t, o, true)
	}
}

// P9 leaves these out: as words of an expression they are ops.
func TestNamesThatAreOps(t *testing.T) {
	for _, s := range []string{"neg", "not", "high", "low"} {
		o := impl.Object{Asserts: []eList{nodes(name(s))}}
		text := "assert " + s + "\n"
		if !impl.ObjectOk(o) || impl.ObjectText(o) != text {
			t.Error(s, impl.ObjectText(o))
		}
		wantNoObject(t, text)
		wantObject(t, impl.Object{Asserts: []eList{nodes(bank(s))}, Syms: []impl.OSym{{Name: s, Sect: -1}}, Sections: []impl.Section{{Name: s, Bank: -1, Addr: -1}}}, true)
		if o, ok := impl.ReadObject("assert x " + s + "\n"); !ok || len(o.Asserts[0]) != 2 || o.Asserts[0][1].Name != "" {
			t.Error(s, o, ok)
		}
	}
}

// spoiledText has a byte, a word or a line changed.
func spoiledText(d *dice, s string) string {
	at := d.below(len(s) + 1)
	switch d.below(6) {
	case 0:
		return s[:at] + someOf(d, " ", "0", "1", "-", "+", "\n", "a", "A", "x", "\x80", "00", "assert 7\n", "symbol zz -1 0 0\n", "section z 0 -1 -1 \n") + s[at:]
	case 1:
		return s[:at] + s[min(at+1, len(s)):]
	case 2:
		return s[:at] + someOf(d, " ", "0", "1", "2", "-", "\n", "a", "x") + s[min(at+1, len(s)):]
	case 3:
		return s[:at]
	}
	lines := strings.SplitAfter(s, "\n")
	k, n := d.below(len(lines)), d.below(len(lines))
	if d.below(2) == 0 {
		lines[k] = lines[n]
	} else {
		lines[k], lines[n] = lines[n], lines[k]
	}
	return strings.Join(lines, "")
}

func TestReadObjectAgainstTheModel(t *testing.T) {
	d := dice(93)
	right := 0
	for range 20000 {
		o := someObject(&d)
		o.Sections, o.Syms = o.Sections[:min(3, len(o.Sections))], nil
		for k := range o.Sections {
			o.Sections[k].Data = o.Sections[k].Data[:min(5, len(o.Sections[k].Data))]
			o.Sections[k].Patches = nil
			if o.Sections[k].Kind != impl.SeWork && len(o.Sections[k].Data) > 0 {
				o.Sections[k].Patches = []impl.Patch{{Kind: impl.PaRel, Expr: someExpr(&d)}}
			}
			o.Syms = append(o.Syms, impl.OSym{Name: "s" + strconv.Itoa(k), Sect: int64(k), Out: k == 1})
		}
		text := spoiledText(&d, impl.ObjectText(o))
		if d.below(2) == 0 {
			text = spoiledText(&d, text)
		}
		want, ok := modelReadObject(text)
		back, is := impl.ReadObject(text)
		if is != ok || !sameObject(back, want) {
			t.Fatalf("ReadObject(%q) = %v, %v, want %v, %v", text, back, is, want, ok)
		}
		if ok {
			right++
			if impl.ObjectText(back) != text {
				t.Fatalf("%q is read as what has the text %q", text, impl.ObjectText(back))
			}
		}
	}
	if right < 1000 || right > 19000 {
		t.Error("too few of one kind", right)
	}
}

func TestObjectOkAgainstTheModel(t *testing.T) {
	d := dice(94)
	right := 0
	numbers := append([]int64{-2, -1, 0, 1, 2, 3, 4, 15, 16, 255, 256, 257, 511, 512, 513, 49151, 49152, 49407, 49408, 49409}, farNumbers...)
	for range 8000 {
		o := someObject(&d)
		n := numbers[d.below(len(numbers))]
		if len(o.Sections) > 0 {
			s := &o.Sections[d.below(len(o.Sections))]
			switch d.below(8) {
			case 0:
				s.Kind = n
			case 1:
				s.Bank = n
			case 2:
				s.Addr = n
			case 3:
				s.Data += "\x01"
			case 4, 5:
				s.Patches = append(s.Patches, impl.Patch{At: n, Kind: int64(d.below(5)), Expr: someExpr(&d)})
			}
		}
		if len(o.Syms) > 0 && d.below(3) == 0 {
			s := &o.Syms[d.below(len(o.Syms))]
			switch d.below(4) {
			case 0:
				s.Sect = n
			case 1:
				s.At = n
			case 2:
				s.Name = "s050"
			}
		}
		wantObject(t, o, modelObjectOk(o))
		if t.Failed() {
			t.FailNow()
		}
		if modelObjectOk(o) {
			right++
		}
	}
	if right < 1000 || right > 7000 {
		t.Error("too few of one kind", right)
	}
}

// listsApart asks whether any two lists of an object share memory, spare room and all.
func listsApart(t *testing.T, o impl.Object) {
	t.Helper()
	var exprs []eList
	for k := range o.Sections {
		for n := range o.Sections[k].Patches {
			exprs = append(exprs, o.Sections[k].Patches[n].Expr)
		}
	}
	exprs = append(exprs, o.Asserts...)
	for k, e := range exprs {
		for n := range e[:cap(e)] {
			e[:cap(e)][n].N = int64(k)
		}
	}
	for k, e := range exprs {
		for n := range e[:cap(e)] {
			if e[:cap(e)][n].N != int64(k) {
				t.Fatal("two expressions share memory", o)
			}
		}
	}
	for k, s := range o.Sections {
		for n := range s.Patches[:cap(s.Patches)] {
			s.Patches[:cap(s.Patches)][n].At = int64(k)
		}
	}
	for k, s := range o.Sections {
		for n := range s.Patches[:cap(s.Patches)] {
			if s.Patches[:cap(s.Patches)][n].At != int64(k) {
				t.Fatal("two lists of patches share memory", o)
			}
		}
	}
}

func TestObjectsThatAreReadAreNewMemory(t *testing.T) {
	d := dice(95)
	for range 300 {
		o := someObject(&d)
		text := impl.ObjectText(o)
		first, _ := impl.ReadObject(text)
		second, _ := impl.ReadObject(text)
		listsApart(t, first)
		for k := range first.Syms {
			first.Syms[k].Name = "other"
		}
		for k := range first.Sections {
			first.Sections[k].Name = "other"
		}
		third, _ := impl.ReadObject(text)
		if !sameObject(second, o) || !sameObject(third, o) {
			t.Fatal("two answers share memory", o)
		}
	}
}
