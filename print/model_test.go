package print_test

import (
	"slices"
	"strconv"
	"strings"

	"tripwire/api"
)

// The model lays a text otherwise than the program does: first come all tokens of a tree, then what stands between any two of them is told by these two alone.

// Tokens that are written alike, but stand otherwise: an operator ahead of its only kid, and the bracket of what a word is asked of.
const (
	neg     = "neg"
	not     = "not"
	bracket = "bracket"
)

var written = map[string]string{neg: "-", not: "!", bracket: "("}

// The chapter's tables of levels: of the kinds, of the operators between two, and what kids' places ask for by the level of their node.
var (
	kindLevels  = map[api.NodeKind]int{1: 8, 2: 8, 3: 8, 4: 8, 5: 7, 7: 1, 8: 8, 9: 8}
	operLevels  = map[api.Oper]int{6: 5, 7: 5, 8: 6, 9: 6, 10: 6, 11: 4, 12: 4, 13: 4, 14: 4, 15: 4, 16: 4, 17: 3, 18: 2}
	placeLevels = map[int][]int{1: {2, 1, 1}, 2: {2, 3}, 3: {3, 4}, 4: {5, 5}, 5: {5, 6}, 6: {6, 7}, 7: {7}, 8: {1, 1}}
)

func modelLevel(n api.Node) int {
	if n.Kind == api.NodeBinary {
		return operLevels[n.Oper]
	}
	return kindLevels[n.Kind]
}

func inBrackets(n api.Node, kid int) bool {
	return modelLevel(n.Kids[kid]) < placeLevels[modelLevel(n)][kid]
}

// marker says of a kid whether brackets that are not needed are put around it.
type marker func() bool

func never() bool { return false }

// exprTokens are the tokens of an expression, with brackets that are not needed where more says so.
func exprTokens(n api.Node, more marker) []string {
	var kids [][]string
	for i, kid := range n.Kids {
		l := exprTokens(kid, more)
		if inBrackets(n, i) || more() {
			l = slices.Concat([]string{"("}, l, []string{")"})
		}
		kids = append(kids, l)
	}
	switch n.Kind {
	case api.NodeLit:
		return []string{literalToken(n)}
	case api.NodeReg:
		return []string{n.Name}
	case api.NodeField:
		return []string{fieldWords[n.Field]}
	case api.NodeHas:
		return []string{"has", fieldWords[n.Field]}
	case api.NodeUnary:
		return slices.Concat([]string{[]string{"", neg, not}[n.Oper]}, kids[0])
	case api.NodeBinary:
		return slices.Concat(kids[0], []string{operTexts[n.Oper]}, kids[1])
	case api.NodeCond:
		return slices.Concat(kids[0], []string{"?"}, kids[1], []string{":"}, kids[2])
	case api.NodeCall:
		return called(operTexts[n.Oper], kids)
	}
	return called(typeWords[n.Type], kids)
}

func literalToken(n api.Node) string {
	switch n.Type {
	case api.TypeBool:
		return strconv.FormatBool(n.N == 1)
	case api.TypeSide:
		return map[int64]string{1: "buy", 2: "sell"}[n.N]
	}
	return strconv.FormatInt(n.N, 10) + letters[n.Type]
}

func called(word string, kids [][]string) []string {
	l := slices.Concat([]string{word, bracket}, kids[0])
	for _, kid := range kids[1:] {
		l = slices.Concat(l, []string{","}, kid)
	}
	return append(l, ")")
}

func doTokens(d api.Do, more marker) []string {
	part := func(n api.Node) []string { return exprTokens(n, more) }
	switch d.Kind {
	case api.DoSubmit:
		l := slices.Concat([]string{"submit"}, part(d.Side), []string{"of"}, part(d.Qty))
		if d.Order == 2 {
			l = append(l, "market")
		} else {
			l = slices.Concat(l, []string{"at"}, part(d.Price), []string{map[api.Kind]string{1: "limit", 3: "ioc", 4: "fok", 5: "post"}[d.Order]})
		}
		if d.Name != "" {
			l = append(l, "as", d.Name)
		}
		return l
	case api.DoAmend:
		return slices.Concat([]string{"amend", d.Name, "to"}, part(d.Qty), []string{"at"}, part(d.Price))
	case api.DoCancel:
		return []string{"cancel", d.Name}
	case api.DoSet:
		return slices.Concat([]string{"set", d.Name, "="}, part(d.Value))
	case api.DoGoto:
		return []string{"goto", d.Name}
	}
	return []string{"halt"}
}

// strategyTokens are those of a strategy; what a register begins with is no expression of the grammar, so nothing is put around its parts.
func strategyTokens(s api.Strategy, more marker) []string {
	l := []string{"strategy", s.Name, "{"}
	for _, r := range s.Regs {
		l = slices.Concat(l, []string{"reg", r.Name, typeWords[r.Type], "="}, exprTokens(r.Init, never), []string{";"})
	}
	for _, x := range s.Slots {
		l = append(l, "slot", x.Name, ";")
	}
	for _, x := range s.States {
		l = append(l, "state", x.Name, "{")
		for _, r := range x.Rules {
			l = slices.Concat(l, []string{"when"}, exprTokens(r.When, more), []string{"do"})
			for i, d := range r.Dos {
				if i > 0 {
					l = append(l, ",")
				}
				l = append(l, doTokens(d, more)...)
			}
			l = append(l, ";")
		}
		l = append(l, "}")
	}
	return append(l, "}")
}

// laid is the tokens as a text: a line ends behind each {, } and ;, and begins with two blanks for each { that is still open.
func laid(l []string) string {
	var b strings.Builder
	open := 0
	for i, x := range l {
		if x == "}" {
			open--
		}
		if i > 0 {
			b.WriteString(between(l[i-1], x, open))
		}
		if x == "{" {
			open++
		}
		if w, is := written[x]; is {
			x = w
		}
		b.WriteString(x)
	}
	if last := l[len(l)-1]; last == "}" {
		b.WriteByte(10)
	}
	return b.String()
}

func between(one, two string, open int) string {
	switch {
	case slices.Contains([]string{"{", "}", ";"}, one):
		return "\n" + strings.Repeat("  ", open)
	case slices.Contains([]string{neg, not, bracket, "("}, one) || slices.Contains([]string{bracket, ")", ",", ";"}, two):
		return ""
	}
	return " "
}

func modelExpr(n api.Node) string { return laid(exprTokens(n, never)) }

func modelStrategy(s api.Strategy) string { return laid(strategyTokens(s, never)) }

// strewn is the tokens as a text with any blanks and remarks between, drawn; where two could be taken for one, there is one at least.
func strewn(l []string, below func(int) int) string {
	blanks := []string{" ", "\t", "\n", "\r", "  ", "#\n", "# so; } &&\n", " \n\t"}
	var b strings.Builder
	last := " "
	for _, x := range l {
		if w, is := written[x]; is {
			x = w
		}
		if mayMerge(last[len(last)-1], x[0]) || below(4) == 0 {
			b.WriteString(blanks[below(len(blanks))])
		}
		b.WriteString(x)
		last = x
	}
	return b.String()
}

// mayMerge tells whether two tokens, of which these are the last and the first byte, could be read otherwise without anything between.
func mayMerge(one, two byte) bool {
	word := func(b byte) bool { return b == '_' || b >= 'a' && b <= 'z' || b >= '0' && b <= '9' }
	return word(one) && word(two) || strings.IndexByte("=!<>", one) >= 0 && two == '='
}
