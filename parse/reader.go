package parse

import (
	"slices"

	"tripwire/api"
	"tripwire/lex"
)

// reader goes through a text token by token.
type reader struct {
	// tokens are those still ahead; if broken is something, it stands where the last of them, TokenEnd, would.
	tokens []api.Token
	broken fault
	// nest is that of the place at hand; between expressions it is 0.
	nest int
}

// fault is what ends a text, and where.
type fault struct {
	at  int
	err error
}

func newReader(s string) *reader {
	tokens, no, at := lex.Tokens(s)
	if no == api.OK {
		return &reader{tokens: tokens}
	}
	// What stands ahead of the fault is read all the same: a token of it that cannot stand ends the text first.
	ahead := slices.Collect(lex.All(s))
	return &reader{tokens: ahead, broken: fault{at, &api.Failure{Call: "Tokens", At: at, Err: no}}}
}

// look is the token at hand.
func (r *reader) look() api.Token {
	if len(r.tokens) == 0 {
		panic(r.broken)
	}
	return r.tokens[0]
}

// is tells whether a word or a mark is at hand: no name and no number has such a Text.
func (r *reader) is(text string) bool {
	return r.look().Text == text
}

// need gives up at the token at hand.
func (r *reader) need(is bool, no api.Errno) {
	if !is {
		panic(fault{r.look().At, no})
	}
}

// step goes on behind the token at hand.
func (r *reader) step() api.Token {
	x := r.look()
	r.tokens = r.tokens[1:]
	return x
}

func (r *reader) take(text string) api.Token {
	r.need(r.is(text), api.ErrParseToken)
	return r.step()
}

func (r *reader) name() string {
	r.need(r.look().Kind == api.TokenName, api.ErrParseToken)
	return r.step().Text
}

func (r *reader) end() {
	r.need(r.look().Kind == api.TokenEnd, api.ErrParseToken)
}

// open goes on behind a token that begins something deeper.
func (r *reader) open() api.Token {
	r.need(r.nest < api.MaxNest, api.ErrParseNest)
	return r.step()
}

// within reads what is deeper by one.
func (r *reader) within(read func() api.Node) api.Node {
	r.nest++
	n := read()
	r.nest--
	return n
}

// list reads things one behind the other, as long as what each begins with is at hand.
func list[T any](r *reader, begin string, most int, read func() T) []T {
	var all []T
	for r.is(begin) {
		r.need(len(all) < most, api.ErrParseMany)
		all = append(all, read())
	}
	return all
}
