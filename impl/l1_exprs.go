package impl

import (
	"iter"
	"strconv"
	"strings"
)

// Expr is an expression.
type Expr struct {
	Op   int
	N    int
	Kids []Expr
}

// Kinds of expressions, and limits.
const (
	OpNum    = 1
	OpVar    = 2
	OpCall   = 3
	OpAdd    = 4
	OpLess   = 5
	OpIf     = 6
	OpLet    = 7
	OpSeq    = 8
	OpOut    = 9
	MaxNum   = 99
	MaxVars  = 8
	MaxFuns  = 8
	MaxArity = 3
	MaxNodes = 80
	MaxDepth = 14
)

// The letters of variables and functions, in the order of their numbers.
const (
	varLetters = "abcdefgh"
	funLetters = "ABCDEFGH"
)

func isVar(n int) bool { return 0 <= n && n < MaxVars }

func isFun(n int) bool { return 0 <= n && n < MaxFuns }

// form is what the nodes of one kind have in common. Its methods are
// unexported, so that there are no kinds but those of this file.
type form interface {
	// fits reports whether the fields of a node are those of the kind.
	// It looks at the number of the operands, and not at what they are.
	fits(e Expr) bool
	// mark returns the text in front of the operand i of a node that fits,
	// or behind all of them if there is no operand i.
	mark(e Expr, i int) string
}

type numForm struct{}

func (numForm) fits(e Expr) bool { return 0 <= e.N && e.N <= MaxNum && len(e.Kids) == 0 }

func (numForm) mark(e Expr, i int) string { return strconv.Itoa(e.N) }

type varForm struct{}

func (varForm) fits(e Expr) bool { return isVar(e.N) && len(e.Kids) == 0 }

func (varForm) mark(e Expr, i int) string { return varLetters[e.N : e.N+1] }

type callForm struct{}

func (callForm) fits(e Expr) bool { return isFun(e.N) && len(e.Kids) <= MaxArity }

func (callForm) mark(e Expr, i int) string {
	text := ""
	if i == 0 {
		text = funLetters[e.N:e.N+1] + "("
	} else if i < len(e.Kids) {
		text = ","
	}
	// Not an else: a call without arguments has both ends in one mark.
	if i == len(e.Kids) {
		text += ")"
	}
	return text
}

type letForm struct{}

func (letForm) fits(e Expr) bool { return isVar(e.N) && len(e.Kids) == 2 }

func (letForm) mark(e Expr, i int) string {
	if i == 0 {
		return "{" + varLetters[e.N:e.N+1] + "="
	}
	return plainForm{"{", ";", "}"}.mark(e, i)
}

// plainForm is a kind that has no N, given by its marks.
type plainForm []string

func (f plainForm) fits(e Expr) bool { return e.N == 0 && len(e.Kids) == len(f)-1 }

func (f plainForm) mark(e Expr, i int) string { return f[i] }

func formOf(op int) (form, bool) {
	switch op {
	case OpNum:
		return numForm{}, true
	case OpVar:
		return varForm{}, true
	case OpCall:
		return callForm{}, true
	case OpAdd:
		return plainForm{"(", "+", ")"}, true
	case OpLess:
		return plainForm{"(", "<", ")"}, true
	case OpIf:
		return plainForm{"[", "?", ":", "]"}, true
	case OpLet:
		return letForm{}, true
	case OpSeq:
		return plainForm{"{", ";", "}"}, true
	case OpOut:
		return plainForm{"!", ""}, true
	}
	return nil, false
}

// bindsIn reports whether the operand i of e is the one in which e binds its N.
func bindsIn(e Expr, i int) bool { return e.Op == OpLet && i == 1 }

// ExprValid reports whether e is an expression with some variables in scope.
func ExprValid(e Expr, scope []int) bool {
	var known [MaxVars]bool
	for _, v := range scope {
		if !isVar(v) {
			return false
		}
		known[v] = true
	}
	return validWith(e, known)
}

// validOpen reports whether e is valid, whatever variables it has free.
func validOpen(e Expr) bool {
	var known [MaxVars]bool
	for v := range known {
		known[v] = true
	}
	return validWith(e, known)
}

func validWith(e Expr, known [MaxVars]bool) bool {
	return withinLimits(e) && validPart(e, known)
}

func withinLimits(e Expr) bool {
	nodes := MaxNodes
	return small(e, MaxDepth, &nodes)
}

// small counts nodes and levels down on the way: what is too large is given up
// as soon as the limits are passed, however large it is.
func small(e Expr, levels int, nodes *int) bool {
	*nodes--
	if levels == 0 || *nodes < 0 {
		return false
	}
	for _, kid := range e.Kids {
		if !small(kid, levels-1, nodes) {
			return false
		}
	}
	return true
}

func validPart(e Expr, known [MaxVars]bool) bool {
	f, ok := formOf(e.Op)
	if !ok || !f.fits(e) || e.Op == OpVar && !known[e.N] {
		return false
	}
	for i, kid := range e.Kids {
		inner := known
		if bindsIn(e, i) {
			inner[e.N] = true
		}
		if !validPart(kid, inner) {
			return false
		}
	}
	return true
}

// endless reports whether e contains itself, by a slice of Kids that is a part
// of its own elements. Such a value has no number of nodes, and going through
// them would not end; the functions below return zero values for it.
func endless(e Expr) bool {
	if withinLimits(e) {
		return false
	}
	root := e
	list := []*Expr{&root}
	done := map[*Expr]bool{} // of each node that was reached: whether all in it was
	for len(list) > 0 {
		x := list[len(list)-1]
		if _, reached := done[x]; reached {
			done[x] = true
			list = list[:len(list)-1]
			continue
		}
		done[x] = false
		for i := range x.Kids {
			kid := &x.Kids[i]
			over, reached := done[kid]
			if reached && !over {
				return true
			}
			if !reached {
				list = append(list, kid)
			}
		}
	}
	return false
}

// ExprSame reports whether a and b are equal.
func ExprSame(a Expr, b Expr) bool {
	if endless(a) {
		return false
	}
	// The pairs to come are kept in a list for the reason given at nodesOf.
	pairs := [][2]Expr{{a, b}}
	for len(pairs) > 0 {
		last := len(pairs) - 1
		x, y := pairs[last][0], pairs[last][1]
		pairs = pairs[:last]
		if x.Op != y.Op || x.N != y.N || len(x.Kids) != len(y.Kids) {
			return false
		}
		for i := range x.Kids {
			pairs = append(pairs, [2]Expr{x.Kids[i], y.Kids[i]})
		}
	}
	return true
}

// FormatExpr returns the text of an expression.
func FormatExpr(e Expr) string {
	if !validOpen(e) {
		return ""
	}
	var b strings.Builder
	writeExpr(&b, e)
	return b.String()
}

func writeExpr(b *strings.Builder, e Expr) {
	f, ok := formOf(e.Op)
	if !ok {
		return
	}
	for i, kid := range e.Kids {
		b.WriteString(f.mark(e, i))
		writeExpr(b, kid)
	}
	b.WriteString(f.mark(e, len(e.Kids)))
}

// ParseExpr parses the text of an expression.
func ParseExpr(text string) (Expr, bool) {
	p := exprParser{rest: text, nodes: MaxNodes}
	e, ok := p.expr(MaxDepth)
	if !ok || p.rest != "" {
		return Expr{}, false
	}
	return e, true
}

// exprParser is what remains of a text, and of the nodes that it may have.
// Nodes and levels are counted down while the text is read, so that no text
// leads deeper than a valid expression goes.
type exprParser struct {
	rest  string
	nodes int
}

func (p *exprParser) skip(c byte) bool {
	if p.rest == "" || p.rest[0] != c {
		return false
	}
	p.rest = p.rest[1:]
	return true
}

// letter skips a letter, and returns its place among the letters.
func (p *exprParser) letter(letters string) (int, bool) {
	if p.rest == "" {
		return 0, false
	}
	n := strings.IndexByte(letters, p.rest[0])
	if n < 0 {
		return 0, false
	}
	p.rest = p.rest[1:]
	return n, true
}

func (p *exprParser) expr(levels int) (Expr, bool) {
	if levels == 0 || p.nodes == 0 {
		return Expr{}, false
	}
	p.nodes--
	switch {
	case p.skip('('):
		return p.pair(levels)
	case p.skip('['):
		return p.operands(Expr{Op: OpIf}, "?:]", levels)
	case p.skip('{'):
		return p.block(levels)
	case p.skip('!'):
		return p.out(levels)
	}
	if v, ok := p.letter(varLetters); ok {
		return Expr{Op: OpVar, N: v}, true
	}
	if f, ok := p.letter(funLetters); ok {
		return p.call(f, levels)
	}
	return p.number()
}

// operands reads, for each of the marks, an operand of e with this mark behind it.
func (p *exprParser) operands(e Expr, marks string, levels int) (Expr, bool) {
	for i := range len(marks) {
		kid, ok := p.expr(levels - 1)
		if !ok || !p.skip(marks[i]) {
			return Expr{}, false
		}
		e.Kids = append(e.Kids, kid)
	}
	return e, true
}

func (p *exprParser) pair(levels int) (Expr, bool) {
	first, ok := p.expr(levels - 1)
	if !ok {
		return Expr{}, false
	}
	e := Expr{Op: OpAdd, Kids: []Expr{first}}
	if !p.skip('+') {
		e.Op = OpLess
		if !p.skip('<') {
			return Expr{}, false
		}
	}
	return p.operands(e, ")", levels)
}

func (p *exprParser) block(levels int) (Expr, bool) {
	e := Expr{Op: OpSeq}
	// No expression has an = behind its first letter.
	if len(p.rest) >= 2 && p.rest[1] == '=' {
		v, ok := p.letter(varLetters)
		if !ok || !p.skip('=') {
			return Expr{}, false
		}
		e = Expr{Op: OpLet, N: v}
	}
	return p.operands(e, ";}", levels)
}

func (p *exprParser) out(levels int) (Expr, bool) {
	kid, ok := p.expr(levels - 1)
	if !ok {
		return Expr{}, false
	}
	return Expr{Op: OpOut, Kids: []Expr{kid}}, true
}

func (p *exprParser) call(f int, levels int) (Expr, bool) {
	e := Expr{Op: OpCall, N: f}
	if !p.skip('(') {
		return Expr{}, false
	}
	if p.skip(')') {
		return e, true
	}
	for len(e.Kids) < MaxArity {
		kid, ok := p.expr(levels - 1)
		if !ok {
			return Expr{}, false
		}
		e.Kids = append(e.Kids, kid)
		if p.skip(')') {
			return e, true
		}
		if !p.skip(',') {
			return Expr{}, false
		}
	}
	return Expr{}, false
}

func (p *exprParser) number() (Expr, bool) {
	rest := strings.TrimLeft(p.rest, "0123456789")
	n, ok := numberUpTo(p.rest[:len(p.rest)-len(rest)], MaxNum)
	if !ok {
		return Expr{}, false
	}
	p.rest = rest
	return Expr{Op: OpNum, N: n}, true
}

// numberUpTo returns the number from 0 to most whose text is text, and true.
func numberUpTo(text string, most int) (int, bool) {
	n, err := strconv.Atoi(text)
	// Atoi also reads signs and leading zeros, which the text of n does not have.
	if err != nil || n < 0 || n > most || strconv.Itoa(n) != text {
		return 0, false
	}
	return n, true
}

// nodesOf goes through the nodes of e, without the operands for which hidden
// holds; through none if e is endless. The nodes to come are kept in a list and not in calls within each
// other, since an invalid expression may be deeper than calls can be.
func nodesOf(e Expr, hidden func(e Expr, i int) bool) iter.Seq[Expr] {
	return func(yield func(Expr) bool) {
		if endless(e) {
			return
		}
		list := []Expr{e}
		for len(list) > 0 {
			x := list[len(list)-1]
			list = list[:len(list)-1]
			if !yield(x) {
				return
			}
			for i, kid := range x.Kids {
				if !hidden(x, i) {
					list = append(list, kid)
				}
			}
		}
	}
}

func hideNone(e Expr, i int) bool { return false }

// SizeOf returns the number of nodes of an expression.
func SizeOf(e Expr) int {
	n := 0
	for range nodesOf(e, hideNone) {
		n++
	}
	return n
}

// FreeVars returns the variables that an expression has free.
func FreeVars(e Expr) []int {
	var list []int
	for v := range MaxVars {
		if CountVar(e, v) != 0 {
			list = append(list, v)
		}
	}
	return list
}

// CallsOf returns the functions that an expression calls.
func CallsOf(e Expr) []int {
	var called [MaxFuns]bool
	for x := range nodesOf(e, hideNone) {
		if x.Op == OpCall && isFun(x.N) {
			called[x.N] = true
		}
	}
	var list []int
	for f, is := range called {
		if is {
			list = append(list, f)
		}
	}
	return list
}

// CountVar returns how often a variable stands free in an expression.
func CountVar(e Expr, v int) int {
	bound := func(x Expr, i int) bool { return bindsIn(x, i) && x.N == v }
	n := 0
	for x := range nodesOf(e, bound) {
		if x.Op == OpVar && x.N == v {
			n++
		}
	}
	return n
}
