package parser_test

import (
	"slices"
	"strconv"
	"strings"

	"tailwater/api"
	"tailwater/exprs"
	"tailwater/lexer"
)

// grammar is what the reference reads by: for each state what may stand there, and the state behind it. "expr", "name", "Size" and "Every" stand for all that they can be, and "end" is where a query may end.
var grammar = map[string]map[string]string{
	"":            {"select": "select"},
	"select":      {"count": "count", "sum": "sum", "min": "sum", "max": "sum"},
	"count":       {"(": "count ("},
	"count (":     {"*": "count ( *"},
	"count ( *":   {")": "agg"},
	"sum":         {"(": "sum ("},
	"sum (":       {"expr": "sum ( expr"},
	"sum ( expr":  {")": "agg"},
	"agg":         {"from": "from"},
	"from":        {"name": "from name"},
	"from name":   {"union": "union", "join": "join", "where": "where", "window": "window"},
	"union":       {"name": "union name"},
	"union name":  {"union": "union", "where": "where", "window": "window"},
	"join":        {"name": "join name"},
	"join name":   {"where": "where", "window": "window"},
	"where":       {"expr": "where expr"},
	"where expr":  {"window": "window"},
	"window":      {"tumble": "tumble", "slide": "slide", "session": "tumble"},
	"tumble":      {"Size": "window Size"},
	"slide":       {"Size": "slide Size"},
	"slide Size":  {"every": "every"},
	"every":       {"Every": "window Size"},
	"window Size": {"end": "", "by": "by", "late": "late"},
	"by":          {"key": "by key"},
	"by key":      {"end": "", "late": "late"},
	"late":        {"drop": "late drop", "side": "late drop"},
	"late drop":   {"end": ""},
}

// steps is the reference on its way: the tokens, the index of the next one, the state it is in, and the query so far.
type steps struct {
	tokens []api.Token
	at     int
	state  string
	query  api.Query
}

// reference returns what Parse has to return: it goes from state to state.
func reference(s string) (api.Query, int, api.Errno) {
	tokens, at, e := lexer.All(s)
	if e != api.OK {
		return api.Query{}, at, e
	}
	x := &steps{tokens: tokens, query: api.Query{Late: api.LaDrop}}
	for {
		_, final := grammar[x.state]["end"]
		if final && x.at == len(tokens) {
			return x.query, len(s), api.OK
		}
		e := x.step()
		if e == api.OK {
			continue
		}
		if final {
			e = api.ErrMore
		}
		if x.at == len(tokens) {
			return api.Query{}, len(s), e
		}
		return api.Query{}, tokens[x.at].At, e
	}
}

// step reads an expression or a token that may stand there, and goes to the next state.
func (x *steps) step() api.Errno {
	next := grammar[x.state]
	if behind := next["expr"]; behind != "" {
		l, at, e := exprs.Parse(x.tokens, x.at)
		if behind == "where expr" {
			x.query.Where = l
		} else {
			x.query.Arg = l
		}
		x.at, x.state = at, behind
		return e
	}
	if x.at == len(x.tokens) {
		return api.ErrForm
	}
	token := x.tokens[x.at]
	class := classOf(token, next)
	if next[class] == "" {
		return api.ErrForm
	}
	if e := x.take(class, token.Text); e != api.OK {
		return e
	}
	x.at, x.state = x.at+1, next[class]
	return api.OK
}

// classOf returns what a token is where some things may stand: its text, if it is none of them.
func classOf(token api.Token, next map[string]string) string {
	switch {
	case token.Kind == api.ToNumber && next["Size"] != "":
		return "Size"
	case token.Kind == api.ToNumber && next["Every"] != "":
		return "Every"
	case strings.Contains("abcd", token.Text) && len(token.Text) == 1 && next["name"] != "":
		return "name"
	}
	return token.Text
}

// take takes what may stand there into the query, unless it is wrong.
func (x *steps) take(class, text string) api.Errno {
	q := &x.query
	n, _ := strconv.ParseInt(text, 10, 64)
	switch class {
	case "count", "sum", "min", "max":
		q.Agg = map[string]uint8{"count": 1, "sum": 2, "min": 3, "max": 4}[text]
	case "name":
		source := int(text[0] - 'a')
		if slices.Index(q.Sources, source) >= 0 {
			return api.ErrName
		}
		q.Sources = append(q.Sources, source)
	case "join":
		q.Join = true
	case "tumble", "slide", "session":
		if q.Join && text[0] == 's' {
			return api.ErrBad
		}
		q.Window.Kind = map[string]uint8{"tumble": 1, "slide": 2, "session": 3}[text]
	case "Size":
		if q.Window.Size = n; n == 0 || n > 1073741824 {
			return api.ErrRange
		}
	case "Every":
		// So many windows have one time in them.
		if q.Window.Every = n; n == 0 || n > q.Window.Size || (q.Window.Size+n-1)/n > 16 {
			return api.ErrRange
		}
	case "by":
		q.ByKey = true
	case "side":
		q.Late = 2
	}
	return api.OK
}
