package tests

import (
	"math"
	"math/big"
	"slices"
	"strconv"
	"strings"
	"testing"

	"loop.example/g00460/impl"
)

// dice gives the same numbers each time the tests run.
type dice uint64

func (d *dice) below(n int) int {
	*d = *d*6364136223846793005 + 1442695040888963407
	return int(uint64(*d) >> 33 % uint64(n))
}

func num(n int64) impl.ENode      { return impl.ENode{Kind: impl.ExNum, N: n} }
func name(s string) impl.ENode    { return impl.ENode{Kind: impl.ExName, Name: s} }
func bank(s string) impl.ENode    { return impl.ENode{Kind: impl.ExBank, Name: s} }
func op(kind int64) impl.ENode    { return impl.ENode{Kind: kind} }
func nodes(e ...impl.ENode) eList { return e }

type eList = []impl.ENode

// sourceOps are the ops between values as a source has them, and how tightly they bind.
var sourceOps = []struct {
	text  string
	kind  int64
	tight int
}{
	{"*", impl.ExMul, 6}, {"/", impl.ExDiv, 6}, {"%", impl.ExMod, 6},
	{"+", impl.ExAdd, 5}, {"-", impl.ExSub, 5},
	{"<<", impl.ExShl, 4}, {">>", impl.ExShr, 4},
	{"&", impl.ExAnd, 3}, {"^", impl.ExXor, 2}, {"|", impl.ExOr, 1},
}

var someNames = []string{"a", "b", "main", ".x", "main.loop", "_", "bank", "abcdefghijklmnop", "f0"}

// made is an expression with its source, written with no bracket that it does not need.
type made struct {
	source string
	nodes  eList
	tight  int // 7: a value
}

func makeValue(d *dice) made {
	switch d.below(5) {
	case 0:
		n := int64(d.below(65536))
		return made{strconv.FormatInt(n, 10), nodes(num(n)), 7}
	case 1:
		n := int64(d.below(65536))
		return made{impl.HexOf(n, 4), nodes(num(n)), 7}
	case 2:
		n := int64(d.below(16))
		return made{"%" + strconv.FormatInt(n, 2), nodes(num(n)), 7}
	case 3:
		s := someNames[d.below(len(someNames))]
		return made{s, nodes(name(s)), 7}
	}
	s := someNames[d.below(len(someNames))]
	return made{"bank(" + s + ")", nodes(bank(s)), 7}
}

func inBrackets(m made) made { return made{"(" + m.source + ")", m.nodes, 7} }

func makeExpr(d *dice, deep int) made {
	if deep == 0 || d.below(5) == 0 {
		return makeValue(d)
	}
	a := makeExpr(d, deep-1)
	switch d.below(10) {
	case 0:
		return made{"high(" + a.source + ")", append(a.nodes, op(impl.ExHigh)), 7}
	case 1:
		return made{"low(" + a.source + ")", append(a.nodes, op(impl.ExLow)), 7}
	case 2, 3:
		if a.tight < 7 {
			a = inBrackets(a)
		}
		if d.below(2) == 0 {
			return made{"-" + a.source, append(a.nodes, op(impl.ExNeg)), 7}
		}
		return made{"~" + a.source, append(a.nodes, op(impl.ExNot)), 7}
	}
	o := sourceOps[d.below(len(sourceOps))]
	b := makeExpr(d, deep-1)
	if a.tight < o.tight {
		a = inBrackets(a)
	}
	if b.tight <= o.tight {
		b = inBrackets(b)
	}
	return made{a.source + o.text + b.source, append(append(a.nodes, b.nodes...), op(o.kind)), o.tight}
}

// madeExprs are some expressions that are short enough to be right.
func madeExprs(seed dice, many int) []made {
	var out []made
	for len(out) < many {
		m := makeExpr(&seed, 4)
		if len(m.nodes) <= impl.MaxExpr && len(m.source) <= 200 {
			out = append(out, m)
		}
	}
	return out
}

func TestExprOk(t *testing.T) {
	one := num(1)
	for _, e := range []eList{
		nodes(num(0)), nodes(num(65535)), nodes(name("a")), nodes(bank("a")), nodes(name("neg")),
		nodes(one, op(impl.ExNeg)), nodes(one, one, op(impl.ExAdd)), nodes(one, one, one, op(impl.ExAdd), op(impl.ExMul)),
		nodes(name("abcdefghijklmnop")),
	} {
		if !impl.ExprOk(e) {
			t.Errorf("%v is not right", e)
		}
	}
	for _, e := range []eList{
		nil, {}, nodes(num(-1)), nodes(num(65536)), nodes(num(math.MinInt64)), nodes(num(math.MaxInt64)),
		nodes(name("")), nodes(name("A")), nodes(name("1a")), nodes(name("abcdefghijklmnopq")), nodes(name("a b")), nodes(bank("")), nodes(bank("#a")),
		nodes(impl.ENode{Kind: impl.ExNum, N: 1, Name: "a"}), nodes(impl.ENode{Kind: impl.ExName, N: 1, Name: "a"}),
		nodes(impl.ENode{Kind: impl.ExBank, N: 1, Name: "a"}), nodes(impl.ENode{Kind: impl.ExBank, N: -1, Name: "a"}),
		nodes(one, one), nodes(one, op(impl.ExAdd)), nodes(op(impl.ExNeg)), nodes(op(impl.ExNeg), one), nodes(op(impl.ExAdd), one, one),
		nodes(one, op(impl.ExAdd), one), nodes(one, one, op(impl.ExAdd), op(impl.ExAdd), one), nodes(one, one, one, op(impl.ExAdd)),
	} {
		wantNotRight(t, e)
	}
}

// wantNotRight asks every function of the chapter for its answer to what is no right expression.
func wantNotRight(t *testing.T, e eList) {
	t.Helper()
	n, code := impl.EvalExpr(e, []impl.Sym{{Name: "a", Value: 1}})
	if impl.ExprOk(e) || impl.ExprText(e) != "" || len(impl.NamesIn(e)) != 0 || n != 0 || code != impl.EvForm {
		t.Errorf("%v: %v %q %v %d %d", e, impl.ExprOk(e), impl.ExprText(e), impl.NamesIn(e), n, code)
	}
}

func TestExprOkByKind(t *testing.T) {
	one := num(1)
	for kind := int64(-3); kind < 25; kind++ {
		takes := -1
		switch {
		case kind >= impl.ExNeg && kind <= impl.ExLow:
			takes = 1
		case kind >= impl.ExAdd && kind <= impl.ExShr:
			takes = 2
		}
		if kind >= impl.ExNum && kind <= impl.ExBank {
			continue
		}
		for values := 0; values < 4; values++ {
			e := append(slices.Repeat(nodes(one), values), op(kind))
			if values != takes {
				wantNotRight(t, e)
				continue
			}
			if !impl.ExprOk(e) {
				t.Errorf("%v is not right", e)
			}
			e[values].N = 1
			wantNotRight(t, e)
			e[values].N, e[values].Name = 0, "a"
			wantNotRight(t, e)
		}
	}
	for _, kind := range []int64{math.MinInt64, math.MaxInt64, 1 << 32, 1<<32 + 1} {
		wantNotRight(t, nodes(one, op(kind)))
		wantNotRight(t, nodes(op(kind)))
	}
}

func TestExprOkAtItsLimit(t *testing.T) {
	signs := func(n int) eList { return append(nodes(num(1)), slices.Repeat(nodes(op(impl.ExNeg)), n)...) }
	if !impl.ExprOk(signs(29)) || impl.ExprText(signs(29)) != "1"+strings.Repeat(" neg", 29) {
		t.Error("30 nodes are refused")
	}
	if n, code := impl.EvalExpr(signs(29), nil); n != -1 || code != impl.EvOk {
		t.Error(n, code)
	}
	wantNotRight(t, signs(30))
	sums := append(slices.Repeat(nodes(num(1)), 16), slices.Repeat(nodes(op(impl.ExAdd)), 15)...)
	wantNotRight(t, sums)
	if _, ok := impl.ReadExpr("1" + strings.Repeat(" neg", 29)); !ok {
		t.Error("the text of 30 nodes is refused")
	}
	if e, ok := impl.ReadExpr("1" + strings.Repeat(" neg", 30)); ok || len(e) != 0 {
		t.Error("the text of 31 nodes is read")
	}
}

func TestExprText(t *testing.T) {
	for _, c := range []struct {
		e    eList
		want string
	}{
		{nodes(num(0)), "0"},
		{nodes(num(65535)), "65535"},
		{nodes(name(".a")), ".a"},
		{nodes(bank("a.b")), "#a.b"},
		{nodes(bank("neg")), "#neg"},
		{nodes(num(1), op(impl.ExNeg), op(impl.ExNot), op(impl.ExHigh), op(impl.ExLow)), "1 neg not high low"},
		{nodes(num(1), num(2), op(impl.ExAdd), num(3), op(impl.ExSub), num(4), op(impl.ExMul), num(5), op(impl.ExDiv), num(6), op(impl.ExMod)), "1 2 + 3 - 4 * 5 / 6 %"},
		{nodes(num(1), num(2), op(impl.ExAnd), num(3), op(impl.ExXor), num(4), op(impl.ExOr), num(5), op(impl.ExShl), num(6), op(impl.ExShr)), "1 2 & 3 ^ 4 | 5 << 6 >>"},
	} {
		if s := impl.ExprText(c.e); s != c.want {
			t.Errorf("%v: %q, want %q", c.e, s, c.want)
		}
		if e, ok := impl.ReadExpr(c.want); !ok || !slices.Equal(e, c.e) {
			t.Errorf("%q: %v, %v", c.want, e, ok)
		}
	}
	// Such a name has a text, but it is an op there.
	if impl.ExprText(nodes(name("neg"))) != "neg" {
		t.Error("the name neg has no text")
	}
}

// P2: right expressions come back from their texts.
func TestExprComesBackFromItsText(t *testing.T) {
	for _, m := range madeExprs(1, 3000) {
		s := impl.ExprText(m.nodes)
		if e, ok := impl.ReadExpr(s); s == "" || !ok || !slices.Equal(e, m.nodes) {
			t.Errorf("%q: %v, %v, want %v", s, e, ok, m.nodes)
		}
	}
}

func TestReadExprWrong(t *testing.T) {
	for _, s := range []string{
		"", " ", "1 ", " 1", "1  neg", "1 neg ", " 1 neg", "1\tneg", "1 neg\n", "1,neg",
		"01", "007", "00", "65536", "-1", "+1", "$1", "%1", "$FF", "1a", "A", "aB", "#", "##a", "# a", "#1", "#A", "a#",
		"neg", "+", "neg 1", "1 2", "1 +", "+ 1 2", "1 2 + +", "1 neg neg +", "1 2 3 +", "1 neg +",
		"1 ~", "1 2 <", "1 2 >", "1 2 <<<", "1 2 &&", "1 2 mod", "1+2", "abcdefghijklmnopq", "(1)", "1 NEG", "1 2 ++",
		strings.Repeat("1 ", 1000), strings.Repeat(" ", 1000),
	} {
		if e, ok := impl.ReadExpr(s); ok || len(e) != 0 {
			t.Errorf("ReadExpr(%q) = %v, %v", s, e, ok)
		}
	}
}

func TestReadExprReadsTextsAlone(t *testing.T) {
	d := dice(2)
	words := []string{"1", "2", "a", "#b", "neg", "low", "+", "%", "<<", "", "01", "$2", "A", "#", "65536", "-"}
	right := 0
	for range 60000 {
		var s []string
		for range 1 + d.below(5) {
			s = append(s, words[d.below(len(words))])
		}
		text := strings.Join(s, " ")
		e, ok := impl.ReadExpr(text)
		if ok && impl.ExprText(e) != text || !ok && len(e) != 0 {
			t.Fatalf("ReadExpr(%q) = %v, %v", text, e, ok)
		}
		if ok {
			right++
		}
	}
	if right < 1000 {
		t.Error("too few were right", right)
	}
}

func wantCompiled(t *testing.T, s string, want eList) {
	t.Helper()
	if e, ok := impl.Compiled(s); !ok || !slices.Equal(e, want) {
		t.Errorf("Compiled(%q) = %q, %v, want %q", s, impl.ExprText(e), ok, impl.ExprText(want))
	}
}

func wantNotCompiled(t *testing.T, s string) {
	t.Helper()
	if e, ok := impl.Compiled(s); ok || len(e) != 0 {
		t.Errorf("Compiled(%q) = %v, %v, want none", s, e, ok)
	}
}

// P2: what binds more tightly is reckoned first, what binds alike from the left on.
func TestWhatBindsMoreTightlyIsReckonedFirst(t *testing.T) {
	a, b, c := name("x"), num(5), name("z")
	for _, o := range sourceOps {
		wantCompiled(t, "x"+o.text+"5", nodes(a, b, op(o.kind)))
		for _, p := range sourceOps {
			want := nodes(a, b, op(o.kind), c, op(p.kind))
			if p.tight > o.tight {
				want = nodes(a, b, c, op(p.kind), op(o.kind))
			}
			wantCompiled(t, "x"+o.text+"5"+p.text+"z", want)
			wantCompiled(t, "(x"+o.text+"5)"+p.text+"z", nodes(a, b, op(o.kind), c, op(p.kind)))
			wantCompiled(t, "x"+o.text+"(5"+p.text+"z)", nodes(a, b, c, op(p.kind), op(o.kind)))
			wantCompiled(t, "-x"+o.text+"~5", nodes(a, op(impl.ExNeg), b, op(impl.ExNot), op(o.kind)))
		}
	}
	for _, m := range madeExprs(3, 3000) {
		wantCompiled(t, m.source, m.nodes)
	}
}

func TestCompiledValues(t *testing.T) {
	for s, want := range map[string]string{
		"1": "1", "007": "7", "$FF": "255", "$0010": "16", "%101": "5", "a": "a", ".x": ".x", "main.loop": "main.loop",
		"high": "high", "low+1": "low 1 +", "bank": "bank", "bank*2": "bank 2 *", "bank(bank)": "#bank", "bank(high)": "#high",
		"high(low(a))": "a low high", "low(1|2)": "1 2 | low", "((a))": "a", "-a": "a neg", "--a": "a neg neg", "~-~a": "a not neg not",
		"1--1": "1 1 neg -", "1-~1": "1 1 not -", "-(1+2)": "1 2 + neg", "-bank(a)": "#a neg", "-2*3": "2 neg 3 *",
		"7%4": "7 4 %", "7%%11": "7 3 %", "%111%%11": "7 3 %", "%1%%1%%1": "1 1 % 1 %", "a%b": "a b %", "a%1": "a 1 %", "a%10": "a 10 %", "a%$1F": "a 31 %",
		"(1)%(2)": "1 2 %", "-%11": "3 neg", "(%11)": "3", "1+%1": "1 1 +", "7%-2": "7 2 neg %", "7%-%10": "7 2 neg %",
		"a|b^c&d<<e+f*g":      "a b c d e f g * + << & ^ |",
		"a*b+c<<d&e^f|g":      "a b * c + d << e & f ^ g |",
		"1>>2<<3":             "1 2 >> 3 <<",
		"abcdefghijklmnop":    "abcdefghijklmnop",
		"000000000000000001":  "1",
		"$00000000000000001":  "1",
		"f0+$F0":              "f0 240 +",
		"high(1)%high(2)":     "1 high 2 high %",
		"bank(a)+bank(.b)":    "#a #.b +",
		"high(a)<<8|low(b-1)": "a high 8 << b 1 - low |",
	} {
		e, ok := impl.Compiled(s)
		if got := impl.ExprText(e); !ok || got != want {
			t.Errorf("Compiled(%q) = %q, %v, want %q", s, got, ok, want)
		}
	}
}

func TestCompiledWrong(t *testing.T) {
	for _, s := range []string{
		"", " ", "1 ", " 1", "1 +2", "1+ 2", "a b", "1\n", "\t1",
		"+", "-", "~", "*", "+1", "1+", "1++", "1++2", "1*/2", "1-", "1~", "1~2", "a~b", "1<2", "1<", "1<<", "1<<<2", "1>2", "1>>>2", "1<>2", "1=2", "1==2", "1&&2", "!1", "1!2",
		"(", ")", "()", "(1", "1)", "((1)", "(1))", ")1(", "1(2)", "(1)(2)", "(1)2", "2(1)", "a(1)", "(a)b", "-()", "[1]",
		"high(1", "high()", "high(", "low(1", "low()", "high1)", "high(1)2", "xhigh(1)", "$high(1)", "high((1)", "High(1)",
		"bank(1)", "bank()", "bank(a", "bank(", "bank(a+b)", "bank((a))", "bank(-a)", "bank($1)", "bank(A)", "bank(aB)", "bank(high(a))", "bank(abcdefghijklmnopq)", "bank(1a)", "bank(a)b",
		"$", "%", "$G", "$ff", "$Fg", "$F.", "%2", "%12", "%1a", "%%1", "$$1", "$%1", "%$1", "7%", "7%%", "7%%%1", "7%%2", "7%%12",
		"70000", "65536", "$10000", "0000000000000000001", "$000000000000000001", "%000000000000000001",
		"A", "F", "AB", "aB", "Ba", "aBc", "aG", "G", "1a", "1A", "1_", "1.", "1.5", "1$2", "a$2", "a#b", "#a", "abcdefghijklmnopq",
		"1\x002", "1\x00", "\x00", "1+\x00", "\xff", "a\xe4", "1,2", "'a'", "\"a\"",
	} {
		wantNotCompiled(t, s)
	}
}

func TestCompiledAtItsLimits(t *testing.T) {
	rep := strings.Repeat
	one := nodes(num(1))
	wantCompiled(t, rep("(", 30)+"1"+rep(")", 30), one)
	wantNotCompiled(t, rep("(", 31)+"1"+rep(")", 31))
	wantNotCompiled(t, rep("(", 99)+"1"+rep(")", 99))
	wantNotCompiled(t, rep("(", 200))
	// 15 signs with a bracket each are 30 deep; one bracket or sign more is not.
	wantCompiled(t, rep("-(", 15)+"1"+rep(")", 15), append(nodes(num(1)), slices.Repeat(nodes(op(impl.ExNeg)), 15)...))
	wantNotCompiled(t, "("+rep("-(", 15)+"1"+rep(")", 15)+")")
	wantNotCompiled(t, rep("-(", 15)+"-1"+rep(")", 15))
	// A right side is one deeper, a left one is not.
	wantCompiled(t, rep("(", 29)+"1+2"+rep(")", 29), nodes(num(1), num(2), op(impl.ExAdd)))
	wantNotCompiled(t, rep("(", 30)+"1+2"+rep(")", 30))
	wantCompiled(t, rep("(", 29)+"1+2-3"+rep(")", 29), nodes(num(1), num(2), op(impl.ExAdd), num(3), op(impl.ExSub)))
	wantCompiled(t, rep("(", 28)+"1+2*3"+rep(")", 28), nodes(num(1), num(2), num(3), op(impl.ExMul), op(impl.ExAdd)))
	wantNotCompiled(t, rep("(", 29)+"1+2*3"+rep(")", 29))
	wantCompiled(t, rep("(", 30)+"1"+rep(")", 30)+"+2", nodes(num(1), num(2), op(impl.ExAdd)))
	wantCompiled(t, "2+"+rep("(", 29)+"1"+rep(")", 29), nodes(num(2), num(1), op(impl.ExAdd)))
	wantNotCompiled(t, "2+"+rep("(", 30)+"1"+rep(")", 30))
	wantCompiled(t, rep("high(", 29)+"1"+rep(")", 29), append(nodes(num(1)), slices.Repeat(nodes(op(impl.ExHigh)), 29)...))
	wantCompiled(t, "("+rep("high(", 29)+"1"+rep(")", 29)+")", append(nodes(num(1)), slices.Repeat(nodes(op(impl.ExHigh)), 29)...))
	wantNotCompiled(t, "(("+rep("high(", 29)+"1"+rep(")", 29)+"))")
	wantCompiled(t, rep("(", 30)+"bank(a)"+rep(")", 30), nodes(bank("a")))
}

func TestCompiledNodesAndBytes(t *testing.T) {
	rep := strings.Repeat
	wantCompiled(t, rep("-", 29)+"1", append(nodes(num(1)), slices.Repeat(nodes(op(impl.ExNeg)), 29)...))
	wantNotCompiled(t, rep("-", 30)+"1")
	if e, ok := impl.Compiled("-1" + rep("+1", 14)); !ok || len(e) != 30 {
		t.Error("30 nodes", len(e), ok)
	}
	wantNotCompiled(t, "1"+rep("+1", 15))
	wantNotCompiled(t, "~-1"+rep("+1", 14))
	// 10 numbers of 18 bytes with ops between are 189 bytes.
	long := rep("000000000000000001+", 9) + "000000000000000001"
	if e, ok := impl.Compiled(long + "+0000000002"); len(long) != 189 || !ok || len(e) != 21 {
		t.Error("200 bytes", ok)
	}
	wantNotCompiled(t, long+"+00000000002")
	wantNotCompiled(t, rep("1", 100000))
}

func TestCompiledOfAnyBytes(t *testing.T) {
	d := dice(4)
	words := []string{"1", "a", "A", "$", "%", "%1", "-", "~", "+", "*", "(", ")", "high(", "bank(", "<<", "<", "|", " ", "\x00", "\xff", "bank(a)"}
	right := 0
	for range 100000 {
		s := ""
		for range d.below(8) {
			s += words[d.below(len(words))]
		}
		e, ok := impl.Compiled(s)
		if ok != impl.ExprOk(e) || !ok && len(e) != 0 {
			t.Fatalf("Compiled(%q) = %v, %v", s, e, ok)
		}
		if ok {
			right++
		}
	}
	if right < 1000 {
		t.Error("too few were right", right)
	}
}

func TestNamesIn(t *testing.T) {
	for s, want := range map[string]string{
		"1": "", "a": "a", "bank(a)": "a", "b+a+b": "a b", "bank(z)+z+.a+_+a1": ".a _ a1 z", "bank(b)*bank(a)": "a b", "ab+a+b": "a ab b",
	} {
		e, ok := impl.Compiled(s)
		if got := strings.Join(impl.NamesIn(e), " "); !ok || got != want {
			t.Errorf("NamesIn(%q) = %q, want %q", s, got, want)
		}
	}
}

func wantEval(t *testing.T, text string, syms []impl.Sym, want int64, code int64) {
	t.Helper()
	e, ok := impl.ReadExpr(text)
	if n, c := impl.EvalExpr(e, syms); !ok || n != want || c != code {
		t.Errorf("EvalExpr(%q) = %d, %d, want %d, %d", text, n, c, want, code)
	}
}

func TestEvalExpr(t *testing.T) {
	syms := []impl.Sym{
		{Name: "x", Bank: 3, Value: 300}, {Name: "x", Bank: 4, Value: 400}, {Name: "min", Value: math.MinInt32}, {Name: "max", Value: math.MaxInt32},
		{Name: "y", Value: -5, Bank: -1}, {Name: "far", Value: 1<<40 + 7, Bank: 1<<32 + 9}, {Name: "over", Value: 1 << 31}, {Name: "least", Value: math.MinInt64, Bank: math.MaxInt64},
		{Name: "", Value: 1}, {Name: "A b", Value: 2},
	}
	for text, want := range map[string]int64{
		"65535": 65535, "x": 300, "#x": 3, "y": -5, "#y": -1, "far": 7, "#far": 9, "over": math.MinInt32, "least": 0, "#least": -1,
		"max 1 +": math.MinInt32, "min 1 -": math.MaxInt32, "min neg": math.MinInt32, "65535 65535 *": -131071, "max max *": 1,
		"min 1 neg /": math.MinInt32, "min 1 neg %": 0, "min y /": 429496729, "y 2 /": -2, "y 2 %": -1, "5 2 neg /": -2, "5 2 neg %": 1, "7 4 %": 3,
		"0 not": -1, "min not": math.MaxInt32, "y not": 4, "1 neg high": 255, "1 neg low": 255, "x high": 1, "x low": 44, "far high": 0, "min high": 0, "max high": 255,
		"12 10 &": 8, "12 10 ^": 6, "12 10 |": 14, "y 255 &": 251, "y 1 |": -5, "y 1 ^": -6,
		"1 31 <<": math.MinInt32, "1 32 <<": 1, "1 33 <<": 2, "1 1 neg <<": math.MinInt32, "3 31 <<": math.MinInt32, "y 1 <<": -10, "max 1 <<": -2,
		"y 1 >>": -3, "y 31 >>": -1, "y 32 >>": -5, "256 4 >>": 16, "min 31 >>": -1, "8 35 >>": 1, "8 1 neg >>": 0,
		"10 4 - 3 -": 3, "1 2 3 * +": 7, "1 2 - 3 *": -3,
	} {
		wantEval(t, text, syms, want, impl.EvOk)
	}
	for text, code := range map[string]int64{
		"1 0 /": impl.EvZero, "1 0 %": impl.EvZero, "0 0 /": impl.EvZero, "1 least /": impl.EvZero, "1 2 2 - %": impl.EvZero,
		"z": impl.EvName, "#z": impl.EvName, "1 z +": impl.EvName, "z 1 0 / +": impl.EvName, "1 0 / z +": impl.EvZero, "z 0 /": impl.EvName, "0 z *": impl.EvName, "0 z &": impl.EvName,
	} {
		wantEval(t, text, syms, 0, code)
	}
	wantEval(t, "x", nil, 0, impl.EvName)
}

func TestEvalExprAtItsLimit(t *testing.T) {
	syms := slices.Repeat([]impl.Sym{{Name: "a", Value: 1}}, impl.MaxSyms-1)
	syms = append(syms, impl.Sym{Name: "z", Bank: 2, Value: 26})
	wantEval(t, "z #z +", syms, 28, impl.EvOk)
	syms = append(syms, impl.Sym{Name: "b"})
	wantEval(t, "z", syms, 0, impl.EvForm)
	wantEval(t, "1", syms, 0, impl.EvForm)
	wantEval(t, "none", syms, 0, impl.EvForm)
	wantEval(t, "1 0 /", syms, 0, impl.EvForm)
}

// model reckons with numbers of any size and wraps behind each node.
func model(e eList, syms []impl.Sym) (int64, int64) {
	var st []*big.Int
	for _, n := range e {
		v := new(big.Int)
		switch {
		case n.Kind == impl.ExNum:
			v.SetInt64(n.N)
		case n.Kind <= impl.ExBank:
			k := slices.IndexFunc(syms, func(s impl.Sym) bool { return s.Name == n.Name })
			if k < 0 {
				return 0, impl.EvName
			}
			v.SetInt64(syms[k].Value)
			if n.Kind == impl.ExBank {
				v.SetInt64(syms[k].Bank)
			}
		case n.Kind <= impl.ExLow:
			v = modelOne(n.Kind, st[len(st)-1])
			st = st[:len(st)-1]
		default:
			v = modelTwo(n.Kind, st[len(st)-2], st[len(st)-1])
			st = st[:len(st)-2]
		}
		if v == nil {
			return 0, impl.EvZero
		}
		st = append(st, wrapped(v))
	}
	return st[0].Int64(), impl.EvOk
}

func wrapped(v *big.Int) *big.Int {
	half := big.NewInt(1 << 31)
	v = new(big.Int).Add(v, half)
	v.Mod(v, big.NewInt(1<<32))
	return v.Sub(v, half)
}

func modelOne(kind int64, a *big.Int) *big.Int {
	switch kind {
	case impl.ExNeg:
		return new(big.Int).Neg(a)
	case impl.ExNot:
		return new(big.Int).Not(a)
	case impl.ExHigh:
		a = new(big.Int).Div(new(big.Int).Sub(a, new(big.Int).Mod(a, big.NewInt(256))), big.NewInt(256))
	}
	return new(big.Int).Mod(a, big.NewInt(256))
}

func modelTwo(kind int64, a, b *big.Int) *big.Int {
	v := new(big.Int)
	shift := uint(new(big.Int).Mod(b, big.NewInt(32)).Int64())
	switch kind {
	case impl.ExAdd:
		return v.Add(a, b)
	case impl.ExSub:
		return v.Sub(a, b)
	case impl.ExMul:
		return v.Mul(a, b)
	case impl.ExAnd:
		return v.And(a, b)
	case impl.ExXor:
		return v.Xor(a, b)
	case impl.ExOr:
		return v.Or(a, b)
	case impl.ExShl:
		return v.Lsh(a, shift)
	case impl.ExShr:
		return v.Rsh(a, shift)
	}
	if b.Sign() == 0 {
		return nil
	}
	if kind == impl.ExDiv {
		return v.Quo(a, b)
	}
	return v.Rem(a, b)
}

func symsOf(d *dice) []impl.Sym {
	var syms []impl.Sym
	values := []int64{0, 1, -1, 2, 300, -300, math.MaxInt32, math.MinInt32, 1 << 33, math.MinInt64, 31, 32}
	for _, s := range someNames {
		syms = append(syms, impl.Sym{Name: s, Bank: values[d.below(len(values))], Value: values[d.below(len(values))]})
	}
	return syms
}

func TestEvalExprAgainstGreatNumbers(t *testing.T) {
	d := dice(5)
	codes := map[int64]int{}
	for _, m := range madeExprs(6, 5000) {
		syms := symsOf(&d)
		n, code := impl.EvalExpr(m.nodes, syms)
		if want, wantCode := model(m.nodes, syms); n != want || code != wantCode {
			t.Fatalf("EvalExpr(%q, %v) = %d, %d, want %d, %d", m.source, syms, n, code, want, wantCode)
		}
		codes[code]++
	}
	if codes[impl.EvOk] < 1000 || codes[impl.EvZero] < 50 {
		t.Error("not enough of each", codes)
	}
}

// P2: an expression tells something only where all its names are there.
func TestNothingIsToldWhereANameLacks(t *testing.T) {
	d := dice(7)
	asked := 0
	for _, m := range madeExprs(8, 2000) {
		syms := symsOf(&d)
		for _, lacking := range impl.NamesIn(m.nodes) {
			fewer := slices.DeleteFunc(slices.Clone(syms), func(s impl.Sym) bool { return s.Name == lacking })
			n, code := impl.EvalExpr(m.nodes, fewer)
			if _, want := model(m.nodes, fewer); code == impl.EvOk || code != want || n != 0 {
				t.Fatalf("EvalExpr(%q) without %s = %d, %d", m.source, lacking, n, code)
			}
			asked++
		}
	}
	if asked < 1000 {
		t.Error("too few were asked", asked)
	}
}

// guarded has a list with spare room behind it, and both as they were.
func guarded[T any](list []T, mark T) (given []T, all []T, before []T) {
	all = append(slices.Clone(list), mark, mark, mark, mark)
	return all[:len(list)], all, slices.Clone(all)
}

func TestExprArgumentsStayAsTheyAre(t *testing.T) {
	d := dice(9)
	for _, m := range madeExprs(10, 300) {
		e, allE, wasE := guarded(m.nodes, impl.ENode{Kind: 99, N: 99, Name: "mark"})
		syms, allS, wasS := guarded(symsOf(&d), impl.Sym{Name: "mark", Bank: 99, Value: 99})
		n, code := impl.EvalExpr(e, syms)
		text, names := impl.ExprText(e), impl.NamesIn(e)
		impl.ExprOk(e)
		if !slices.Equal(allE, wasE) || !slices.Equal(allS, wasS) {
			t.Fatalf("%q: an argument was written into", m.source)
		}
		for k := range names {
			names[k] = "other"
		}
		again, codeAgain := impl.EvalExpr(e, syms)
		if n != again || code != codeAgain || text != impl.ExprText(e) || slices.Contains(impl.NamesIn(e), "other") {
			t.Fatalf("%q: another answer to the same argument", m.source)
		}
	}
}

func TestExprAnswersAreNewMemory(t *testing.T) {
	for _, read := range []func(string) ([]impl.ENode, bool){impl.ReadExpr, impl.Compiled} {
		first, _ := read("a")
		second, _ := read("a")
		first[0].Name = "b"
		if third, _ := read("a"); second[0].Name != "a" || third[0].Name != "a" {
			t.Error("two answers share memory")
		}
	}
}
