package parse_test

import (
	"slices"
	"strings"

	"tripwire/api"
	"tripwire/lex"
)

// The model has the grammar as a text, rule by rule as the chapter has it, and goes through tokens with all ways in which it could have come so far: a token cannot stand where no way goes on.
//
// With the chapter's words beside it: ^ stands ahead of what is one nest deeper, ~ ahead of the token that begins such a thing, and a number ahead of a token that may come so many times within the rule where it is counted.
const grammar = `
strategy = "strategy" NAME "{" {reg} {slot} state {state} "}"
reg      = 12 "reg" NAME type "=" ( literal | "-" NUMBER ) ";"
type     = "int" | "qty" | "price" | "time" | "bool" | "side"
slot     = 4 "slot" NAME ";"
state    = 12 "state" NAME "{" {rule} "}"
rule     = 12 "when" expr "do" do { 7 "," do} ";"
do       = "submit" expr "of" expr ( "market" | "at" expr kind ) ["as" NAME]
         | "amend" NAME "to" expr "at" expr
         | "cancel" NAME | "set" NAME "=" expr | "goto" NAME | "halt"
kind     = "limit" | "ioc" | "fok" | "post"
expr     = or [ ~ "?" ^ expr ":" ^ expr ]
or       = and { "||" and }
and      = compare { "&&" compare }
compare  = sum [ ( "==" | "!=" | "<" | "<=" | ">" | ">=" ) sum ]
sum      = product { ( "+" | "-" ) product }
product  = unary { ( "*" | "/" | "%" ) unary }
unary    = ( ~ "-" | ~ "!" ) ^ unary | one
one      = literal | NAME | field | "has" ( "bid" | "ask" | "last" ) | ~ "(" ^ expr ")"
         | ~ "abs" "(" ^ expr ")" | ( ~ "min" | ~ "max" ) "(" ^ expr "," ^ expr ")"
         | ( ~ "int" | ~ "qty" | ~ "price" | ~ "time" ) "(" ^ expr ")"
field    = "bid" | "ask" | "last" | "volume" | "now" | "open"
literal  = NUMBER | "true" | "false" | "buy" | "sell"
`

// piece is a piece of the grammar.
type piece struct {
	// form is what it is: a token '"' (of the text), 'N' (a name) or '#' (a number); a rule 'r' (called by the text); pieces in a row 's'; one of several '|'; one or none '['; any number '{'; the end of a rule '.' (of a way alone).
	form   byte
	text   string
	kids   []*piece
	deeper bool // what ^ stands ahead of
	begins bool // what ~ stands ahead of
	most   int  // the number ahead of it
	height int  // how many rules are within one another in the least that it can be
}

// rules are the grammar's, by their names.
var rules = readGrammar()

func readGrammar() map[string]*piece {
	words := strings.Fields(spread(grammar))
	all := map[string]*piece{}
	var names []string
	for len(words) > 0 {
		name := words[0]
		end := 2
		for end < len(words) && (end+1 == len(words) || words[end+1] != "=") {
			end++
		}
		rest := words[2:end]
		all[name] = readChoice(&rest)
		names = append(names, name)
		words = words[end:]
	}
	for range names {
		for _, name := range names {
			measure(all[name], all)
		}
	}
	return all
}

// spread is the text with blanks around what stands for itself outside of quotes.
func spread(s string) string {
	var b strings.Builder
	quoted := false
	for _, c := range s {
		if c == '"' {
			quoted = !quoted
		}
		if !quoted && strings.ContainsRune("()[]{}|", c) {
			b.WriteString(" " + string(c) + " ")
			continue
		}
		b.WriteRune(c)
	}
	return b.String()
}

func readChoice(words *[]string) *piece {
	p := &piece{form: '|', kids: []*piece{readRow(words)}}
	for len(*words) > 0 && (*words)[0] == "|" {
		*words = (*words)[1:]
		p.kids = append(p.kids, readRow(words))
	}
	return p
}

func readRow(words *[]string) *piece {
	row := &piece{form: 's'}
	next := &piece{}
	for len(*words) > 0 && !strings.Contains("|)]}", (*words)[0]) {
		w := (*words)[0]
		*words = (*words)[1:]
		switch {
		case w == "^":
			next.deeper = true
			continue
		case w == "~":
			next.begins = true
			continue
		case w[0] >= '1' && w[0] <= '9':
			next.most = map[string]int{"4": 4, "7": 7, "12": 12}[w]
			continue
		case strings.Contains("([{", w):
			next.form = w[0]
			next.kids = []*piece{readChoice(words)}
			if w == "(" {
				next.form = 's'
			}
			*words = (*words)[1:]
		case w[0] == '"':
			next.form, next.text = '"', strings.Trim(w, `"`)
		case w == "NAME":
			next.form = 'N'
		case w == "NUMBER":
			next.form = '#'
		default:
			next.form, next.text = 'r', w
		}
		row.kids = append(row.kids, next)
		next = &piece{}
	}
	return row
}

// measure reckons heights, from those that are known so far; 0 is: not known.
func measure(p *piece, all map[string]*piece) {
	for _, kid := range p.kids {
		measure(kid, all)
	}
	switch p.form {
	case '"', 'N', '#', '[', '{':
		p.height = 1
	case 'r':
		if all[p.text] != nil && all[p.text].height > 0 {
			p.height = all[p.text].height + 1
		}
	case 's':
		p.height = 1
		for _, kid := range p.kids {
			if kid.height == 0 {
				p.height = 0
				return
			}
			p.height = max(p.height, kid.height)
		}
	case '|':
		p.height = 0
		for _, kid := range p.kids {
			if kid.height > 0 && (p.height == 0 || kid.height < p.height) {
				p.height = kid.height
			}
		}
	}
}

// ahead is what a way still has to go through, from its top on, each with the nest of its place.
type ahead struct {
	p    *piece
	nest int
	next *ahead
}

// step is what a way has gone through, the last first: a rule's begin (its piece), its end, or a token.
type step struct {
	p     *piece
	token api.Token
	prev  *step
}

type way struct {
	ahead *ahead
	steps *step
}

// leads hands each way that has a token at its top, or nothing any more, and that begins like the way that is given.
func (w way) leads(see func(way)) {
	if w.ahead == nil {
		see(w)
		return
	}
	p, nest, next := w.ahead.p, w.ahead.nest, w.ahead.next
	if p.deeper {
		nest++
	}
	switch p.form {
	case '.':
		way{next, &step{p: p, prev: w.steps}}.leads(see)
	case 'r':
		end := &ahead{&piece{form: '.'}, 0, next}
		way{&ahead{rules[p.text], nest, end}, &step{p: p, prev: w.steps}}.leads(see)
	case 's':
		for _, kid := range slices.Backward(p.kids) {
			next = &ahead{kid, nest, next}
		}
		way{next, w.steps}.leads(see)
	case '|':
		for _, kid := range p.kids {
			way{&ahead{kid, nest, next}, w.steps}.leads(see)
		}
	case '[':
		way{next, w.steps}.leads(see)
		way{&ahead{p.kids[0], nest, next}, w.steps}.leads(see)
	case '{':
		way{next, w.steps}.leads(see)
		way{&ahead{p.kids[0], nest, w.ahead}, w.steps}.leads(see)
	default:
		see(w)
	}
}

func fits(p *piece, x api.Token) bool {
	switch p.form {
	case 'N':
		return x.Kind == api.TokenName
	case '#':
		return x.Kind == api.TokenNumber
	}
	return x.Text == p.text && (x.Kind == api.TokenWord || x.Kind == api.TokenMark)
}

// model is a text as far as it has been gone through.
type model struct {
	ways   []way
	counts map[string]int
	no     api.Errno // why it has ended
	at     int
}

func newModel(rule string) *model {
	return &model{ways: []way{{ahead: &ahead{p: &piece{form: 'r', text: rule}}}}, counts: map[string]int{}}
}

// copied is the same, to go on another way from here.
func (m *model) copied() *model {
	out := *m
	out.counts = map[string]int{}
	for k, n := range m.counts {
		out.counts[k] = n
	}
	return &out
}

// feed goes on by a token, TokenEnd at last; behind the one that ends it nothing counts.
func (m *model) feed(x api.Token) {
	if m.no != api.OK {
		return
	}
	var on []way
	var by *ahead
	for _, w := range m.ways {
		w.leads(func(w way) {
			switch {
			case w.ahead == nil && x.Kind == api.TokenEnd:
				on = append(on, w)
			case w.ahead != nil && x.Kind != api.TokenEnd && fits(w.ahead.p, x):
				by = w.ahead
				on = append(on, way{w.ahead.next, &step{token: x, prev: w.steps}})
			}
		})
	}
	m.ways = on
	switch {
	case len(on) == 0:
		m.end(wrongToken, x.At)
	case x.Kind == api.TokenEnd:
	case by.p.most > 0 && m.count(by.p) > by.p.most:
		m.end(tooMany, x.At)
	case by.p.begins && by.nest+1 > deepest:
		m.end(tooDeep, x.At)
	}
}

func (m *model) end(no api.Errno, at int) {
	m.no, m.at, m.ways = no, at, nil
}

// count is how many such tokens there are: of rules since their state began, of things done since their rule did.
func (m *model) count(p *piece) int {
	m.counts[p.text]++
	switch p.text {
	case "state":
		m.counts["when"] = 0
	case "when":
		m.counts[","] = 0
	}
	return m.counts[p.text]
}

// modelOf goes through a text.
func modelOf(rule, s string) *model {
	m := newModel(rule)
	for x := range lex.All(s) {
		m.feed(x)
	}
	if _, no, at := lex.Tokens(s); no != api.OK {
		if m.no == api.OK {
			m.end(no, at)
		}
		return m
	}
	m.feed(api.Token{Kind: api.TokenEnd, At: len(s)})
	return m
}

// part is a rule with what it was made of, in order, or a token.
type part struct {
	rule  string
	token api.Token
	kids  []part
}

// parts are the whole text's, of the one way that came to its end.
func (m *model) parts() part {
	if len(m.ways) != 1 {
		panic("a text with more than one tree")
	}
	var steps []*step
	for s := m.ways[0].steps; s != nil; s = s.prev {
		steps = append(steps, s)
	}
	slices.Reverse(steps)
	open := []part{{}}
	for _, s := range steps {
		last := len(open) - 1
		switch {
		case s.p == nil:
			open[last].kids = append(open[last].kids, part{token: s.token})
		case s.p.form == 'r':
			open = append(open, part{rule: s.p.text})
		default:
			open[last-1].kids = append(open[last-1].kids, open[last])
			open = open[:last]
		}
	}
	return open[0].kids[0]
}

// text is the i-th kid's, if it is a token.
func (p part) text(i int) string {
	if i >= len(p.kids) {
		return ""
	}
	return p.kids[i].token.Text
}

// of are the kids that are of a rule.
func (p part) of(rule string) []part {
	var all []part
	for _, kid := range p.kids {
		if kid.rule == rule {
			all = append(all, kid)
		}
	}
	return all
}

func (p part) at() int { return p.kids[0].token.At }

// The tree, by what the chapter says of each rule.

func index[T ~uint8](texts []string, s string) T {
	return T(slices.Index(texts, s))
}

func exprOf(p part) api.Node {
	switch p.rule {
	case "expr":
		n := exprOf(p.kids[0])
		if len(p.kids) > 1 {
			n = api.Node{Kind: 7, Kids: []api.Node{n, exprOf(p.kids[2]), exprOf(p.kids[4])}, At: p.kids[1].token.At}
		}
		return n
	case "unary":
		if len(p.kids) == 1 {
			return exprOf(p.kids[0])
		}
		return api.Node{Kind: 5, Oper: index[api.Oper](operTexts[:3], p.text(0)), Kids: []api.Node{exprOf(p.kids[1])}, At: p.at()}
	case "one":
		return oneOf(p)
	case "literal":
		return literalOf(p.kids[0].token)
	case "field":
		return api.Node{Kind: 3, Field: index[api.Field](fieldTexts[:], p.text(0)), At: p.at()}
	}
	// The last operator has all ahead of it as its first kid.
	last := len(p.kids) - 1
	if last == 0 {
		return exprOf(p.kids[0])
	}
	first := exprOf(part{rule: p.rule, kids: p.kids[:last-1]})
	return api.Node{Kind: 6, Oper: 6 + index[api.Oper](operTexts[6:], p.text(last-1)), Kids: []api.Node{first, exprOf(p.kids[last])}, At: p.kids[last-1].token.At}
}

func oneOf(p part) api.Node {
	var kids []api.Node
	for _, kid := range p.of("expr") {
		kids = append(kids, exprOf(kid))
	}
	word := p.text(0)
	switch word {
	case "":
		return exprOf(p.kids[0])
	case "(":
		return kids[0]
	case "has":
		return api.Node{Kind: 4, Field: index[api.Field](fieldTexts[:], p.text(1)), At: p.at()}
	case "abs", "min", "max":
		return api.Node{Kind: 8, Oper: index[api.Oper](operTexts[:], word), Kids: kids, At: p.at()}
	case "int", "qty", "price", "time":
		return api.Node{Kind: 9, Type: index[api.Type](typeTexts[:], word), Kids: kids, At: p.at()}
	}
	return api.Node{Kind: 2, Name: word, At: p.at()}
}

func literalOf(x api.Token) api.Node {
	n := map[string]api.Node{"true": {Type: 5, N: 1}, "false": {Type: 5, N: 0}, "buy": {Type: 6, N: 1}, "sell": {Type: 6, N: 2}}[x.Text]
	if x.Kind == api.TokenNumber {
		n = api.Node{Type: x.Type, N: x.N}
	}
	n.Kind, n.At = 1, x.At
	return n
}

func strategyOf(p part) api.Strategy {
	s := api.Strategy{Name: p.text(1)}
	for _, x := range p.of("reg") {
		r := api.Reg{Name: x.text(1), Type: index[api.Type](typeTexts[:], x.kids[2].text(0)), At: x.at()}
		if x.text(4) == "-" {
			r.Init = api.Node{Kind: 5, Oper: 1, Kids: []api.Node{literalOf(x.kids[5].token)}, At: x.kids[4].token.At}
		} else {
			r.Init = exprOf(x.kids[4])
		}
		s.Regs = append(s.Regs, r)
	}
	for _, x := range p.of("slot") {
		s.Slots = append(s.Slots, api.Slot{Name: x.text(1), At: x.at()})
	}
	for _, x := range p.of("state") {
		state := api.State{Name: x.text(1), At: x.at()}
		for _, r := range x.of("rule") {
			rule := api.Rule{When: exprOf(r.kids[1]), At: r.at()}
			for _, d := range r.of("do") {
				rule.Dos = append(rule.Dos, doOf(d))
			}
			state.Rules = append(state.Rules, rule)
		}
		s.States = append(s.States, state)
	}
	return s
}

func doOf(p part) api.Do {
	d := api.Do{Kind: index[api.DoKind](doTexts[:], p.text(0)), At: p.at()}
	for i := range p.kids {
		if p.kids[i].token.Kind == api.TokenName {
			d.Name = p.text(i)
		}
	}
	to := map[api.DoKind][]*api.Node{1: {&d.Side, &d.Qty, &d.Price}, 2: {&d.Qty, &d.Price}, 4: {&d.Value}}[d.Kind]
	for i, x := range p.of("expr") {
		*to[i] = exprOf(x)
	}
	if p.text(4) == "market" {
		d.Order = api.Market
	}
	for _, x := range p.of("kind") {
		d.Order = map[string]api.Kind{"limit": 1, "ioc": 3, "fok": 4, "post": 5}[x.text(0)]
	}
	return d
}
