package impl

import (
	"slices"
	"strconv"
	"strings"
)

const (
	ExNum   = 1
	ExName  = 2
	ExBank  = 3
	ExNeg   = 4
	ExNot   = 5
	ExHigh  = 6
	ExLow   = 7
	ExAdd   = 8
	ExSub   = 9
	ExMul   = 10
	ExDiv   = 11
	ExMod   = 12
	ExAnd   = 13
	ExXor   = 14
	ExOr    = 15
	ExShl   = 16
	ExShr   = 17
	EvOk    = 0
	EvForm  = 1
	EvName  = 2
	EvZero  = 3
	MaxExpr = 30
	MaxName = 16
	MaxSyms = 200
	MaxWord = 65535
)

type ENode struct {
	Kind int64
	N    int64
	Name string
}

type Sym struct {
	Name  string
	Bank  int64
	Value int64
}

const maxExprSource = 200

// From ExNeg on, in the order of the kinds.
var opTexts = [14]string{"neg", "not", "high", "low", "+", "-", "*", "/", "%", "&", "^", "|", "<<", ">>"}

// A step is a right node. It can be had from stepOf alone, so nobody behind it asks again what is right.
type step interface {
	takes() int64
}

type numStep struct{ n int64 }

type valueStep struct{ name string }

type bankStep struct{ name string }

type oneStep struct{ kind int64 }

type twoStep struct{ kind int64 }

func (numStep) takes() int64   { return 0 }
func (valueStep) takes() int64 { return 0 }
func (bankStep) takes() int64  { return 0 }
func (oneStep) takes() int64   { return 1 }
func (twoStep) takes() int64   { return 2 }

func stepOf(n ENode) (step, bool) {
	switch {
	case n.Kind == ExNum:
		return numStep{n.N}, isWord(n.N) && n.Name == ""
	case n.Kind == ExName:
		return valueStep{n.Name}, n.N == 0 && NameOk(n.Name)
	case n.Kind == ExBank:
		return bankStep{n.Name}, n.N == 0 && NameOk(n.Name)
	case n.Kind >= ExNeg && n.Kind <= ExLow:
		return oneStep{n.Kind}, n.N == 0 && n.Name == ""
	case n.Kind >= ExAdd && n.Kind <= ExShr:
		return twoStep{n.Kind}, n.N == 0 && n.Name == ""
	}
	return nil, false
}

func stepsOf(e []ENode) ([]step, bool) {
	if len(e) > MaxExpr {
		return nil, false
	}
	var steps []step
	values := int64(0)
	for _, n := range e {
		s, ok := stepOf(n)
		if !ok || s.takes() > values {
			return nil, false
		}
		values += 1 - s.takes()
		steps = append(steps, s)
	}
	return steps, values == 1
}

func ExprOk(e []ENode) bool {
	_, ok := stepsOf(e)
	return ok
}

func ExprText(e []ENode) string {
	steps, ok := stepsOf(e)
	if !ok {
		return ""
	}
	var words []string
	for _, s := range steps {
		words = append(words, stepText(s))
	}
	return strings.Join(words, " ")
}

func stepText(s step) string {
	switch x := s.(type) {
	case numStep:
		return strconv.FormatInt(x.n, 10)
	case valueStep:
		return x.name
	case bankStep:
		return "#" + x.name
	case oneStep:
		return opTexts[x.kind-ExNeg]
	case twoStep:
		return opTexts[x.kind-ExNeg]
	}
	return ""
}

func ReadExpr(s string) ([]ENode, bool) {
	var e []ENode
	for _, word := range strings.Split(s, " ") {
		e = append(e, nodeOf(word))
	}
	if !ExprOk(e) {
		return nil, false
	}
	return e, true
}

// A word that tells no node becomes a name that is not right, which ExprOk refuses with all else.
func nodeOf(word string) ENode {
	for kind := int64(ExNeg); kind <= ExShr; kind++ {
		if opTexts[kind-ExNeg] == word {
			return ENode{Kind: kind}
		}
	}
	// Only the digits that ExprText writes are read: no base but 10, no noughts ahead.
	if n, ok := ReadNum(word); ok && strconv.FormatInt(n, 10) == word {
		return ENode{Kind: ExNum, N: n}
	}
	if strings.HasPrefix(word, "#") {
		return ENode{Kind: ExBank, Name: word[1:]}
	}
	return ENode{Kind: ExName, Name: word}
}

func Compiled(s string) (e []ENode, ok bool) {
	if len(s) > maxExprSource {
		return nil, false
	}
	defer func() {
		if recover() != nil {
			e, ok = nil, false
		}
	}()
	p := exprParser{text: s}
	p.expr(1, 0)
	if p.at != len(p.text) {
		panic("something stands behind the expression")
	}
	return p.nodes, true
}

// An exprParser panics where no expression stands: what has been read is of no use then, however deep it is.
type exprParser struct {
	text  string
	at    int
	nodes []ENode
}

func (p *exprParser) expr(tight int64, deep int64) {
	p.value(deep)
	for {
		op := opAt(p.text[p.at:])
		if op.tight < tight {
			return
		}
		p.at += op.size
		// The right side holds what binds more tightly alone, so what binds alike is reckoned from the left on.
		p.expr(op.tight+1, deep+1)
		p.put(ENode{Kind: op.kind})
	}
}

func (p *exprParser) value(deep int64) {
	if deep > MaxExpr {
		panic("values stand too deep in one another")
	}
	switch p.next() {
	case '-':
		p.at++
		p.value(deep + 1)
		p.put(ENode{Kind: ExNeg})
	case '~':
		p.at++
		p.value(deep + 1)
		p.put(ENode{Kind: ExNot})
	case '(':
		p.bracket(deep)
	default:
		p.word(deep)
	}
}

func (p *exprParser) word(deep int64) {
	from := p.at
	// Where a value is to stand % is the sign of a number; the op has been read by expr.
	if p.next() == '$' || p.next() == '%' {
		p.at++
	}
	p.run()
	word := p.text[from:p.at]
	opens := p.next() == '('
	n, isNum := ReadNum(word)
	switch {
	case opens && word == "high":
		p.bracket(deep)
		p.put(ENode{Kind: ExHigh})
	case opens && word == "low":
		p.bracket(deep)
		p.put(ENode{Kind: ExLow})
	case opens && word == "bank":
		p.bank()
	case isNum:
		p.put(ENode{Kind: ExNum, N: n})
	default:
		p.name(ExName, word)
	}
}

func (p *exprParser) bracket(deep int64) {
	p.skip('(')
	p.expr(1, deep+1)
	p.skip(')')
}

// What stands in the brackets of bank is no value of its own, so it is no deeper.
func (p *exprParser) bank() {
	p.skip('(')
	from := p.at
	p.run()
	p.name(ExBank, p.text[from:p.at])
	p.skip(')')
}

func (p *exprParser) name(kind int64, name string) {
	if !NameOk(name) {
		panic("no value stands there")
	}
	p.put(ENode{Kind: kind, Name: name})
}

func (p *exprParser) put(n ENode) {
	if len(p.nodes) == MaxExpr {
		panic("there are too many nodes")
	}
	p.nodes = append(p.nodes, n)
}

// 0 at the end: it is part of no expression, so where it stands in a text it ends that likewise.
func (p *exprParser) next() byte {
	if p.at == len(p.text) {
		return 0
	}
	return p.text[p.at]
}

func (p *exprParser) skip(c byte) {
	if p.next() != c {
		panic("a bracket lacks")
	}
	p.at++
}

// The letters A .. F count in names, too, so that a name is not cut ahead of one: it is refused as a whole.
func (p *exprParser) run() {
	for isNameByte(p.next()) || p.next() >= 'A' && p.next() <= 'F' {
		p.at++
	}
}

type sourceOp struct {
	kind  int64
	tight int64
	size  int
}

// No op binds 0, less tightly than any that expr waits for.
func opAt(s string) sourceOp {
	if strings.HasPrefix(s, "<<") {
		return sourceOp{ExShl, 4, 2}
	}
	if strings.HasPrefix(s, ">>") {
		return sourceOp{ExShr, 4, 2}
	}
	if s == "" {
		return sourceOp{}
	}
	switch s[0] {
	case '*':
		return sourceOp{ExMul, 6, 1}
	case '/':
		return sourceOp{ExDiv, 6, 1}
	case '%':
		return sourceOp{ExMod, 6, 1}
	case '+':
		return sourceOp{ExAdd, 5, 1}
	case '-':
		return sourceOp{ExSub, 5, 1}
	case '&':
		return sourceOp{ExAnd, 3, 1}
	case '^':
		return sourceOp{ExXor, 2, 1}
	case '|':
		return sourceOp{ExOr, 1, 1}
	}
	return sourceOp{}
}

func NamesIn(e []ENode) []string {
	if !ExprOk(e) {
		return nil
	}
	var names []string
	for _, n := range e {
		if n.Name != "" {
			names = append(names, n.Name)
		}
	}
	slices.Sort(names)
	return slices.Compact(names)
}

func EvalExpr(e []ENode, syms []Sym) (int64, int64) {
	steps, ok := stepsOf(e)
	if !ok || len(syms) > MaxSyms {
		return 0, EvForm
	}
	var values []int32
	for _, s := range steps {
		below := len(values) - int(s.takes())
		v, code := reckoned(s, values[below:], syms)
		if code != EvOk {
			return 0, code
		}
		values = append(values[:below], v)
	}
	return int64(values[0]), EvOk
}

func reckoned(s step, taken []int32, syms []Sym) (int32, int64) {
	switch x := s.(type) {
	case numStep:
		return int32(x.n), EvOk
	case valueStep:
		sym, code := symNamed(x.name, syms)
		return int32(sym.Value), code
	case bankStep:
		sym, code := symNamed(x.name, syms)
		return int32(sym.Bank), code
	case oneStep:
		return reckonedOne(x.kind, taken[0]), EvOk
	case twoStep:
		return reckonedTwo(x.kind, taken[0], taken[1])
	}
	return 0, EvForm
}

func symNamed(name string, syms []Sym) (Sym, int64) {
	for _, sym := range syms {
		if sym.Name == name {
			return sym, EvOk
		}
	}
	return Sym{}, EvName
}

func reckonedOne(kind int64, a int32) int32 {
	switch kind {
	case ExNeg:
		return -a
	case ExNot:
		return ^a
	case ExHigh:
		return a >> 8 & 255
	}
	return a & 255
}

func reckonedTwo(kind int64, a int32, b int32) (int32, int64) {
	switch kind {
	case ExAdd:
		return a + b, EvOk
	case ExSub:
		return a - b, EvOk
	case ExMul:
		return a * b, EvOk
	case ExDiv, ExMod:
		return divided(kind, a, b)
	case ExAnd:
		return a & b, EvOk
	case ExXor:
		return a ^ b, EvOk
	case ExOr:
		return a | b, EvOk
	case ExShl:
		return a << (uint32(b) & 31), EvOk
	}
	return a >> (uint32(b) & 31), EvOk
}

func divided(kind int64, a int32, b int32) (int32, int64) {
	if b == 0 {
		return 0, EvZero
	}
	if kind == ExMod {
		return a % b, EvOk
	}
	return a / b, EvOk
}
