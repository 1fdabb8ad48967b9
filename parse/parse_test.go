package parse

import (
	"fmt"
	"math/rand"
	"reflect"
	"slices"
	"strconv"
	"strings"
	"sync"
	"testing"

	"bootchain/api"
	"bootchain/lex"
)

// kinds are the kinds of nodes by the names that written-out trees use.
var kinds = map[string]int{
	"ENum": 1, "EVar": 2, "EAdd": 3, "ESub": 4, "EMul": 5, "ELess": 6, "EEq": 7, "EAnd": 8, "EOr": 9, "ENot": 10,
	"SLet": 11, "SIf": 12, "SRepeat": 13, "SNote": 14, "SHalt": 15, "SAccept": 16, "SBlock": 17,
}

// binary are the binary operators with the kinds of their nodes and how tightly they bind.
var binary = []struct {
	sign       string
	kind, rank int
}{{"+", 3, 4}, {"-", 4, 4}, {"*", 5, 5}, {"<", 6, 3}, {"==", 7, 3}, {"&&", 8, 2}, {"||", 9, 1}}

var keywords = []string{"input", "strap", "fuse", "slot", "mail", "let", "if", "else", "repeat", "note", "halt", "accept"}

// everyToken has each token that has a meaning, two names, two numbers, and the one sign that no production has.
var everyToken = append([]string{"x", "y2_", "0", "65535", "{", "}", "(", ")", ";", "=", "+", "-", "*", "<", "==", "&&", "||", "!", ">="}, keywords...)

// nodes returns the nodes of a list such as "EVar x, ENum 1, EEq @0 @1": kinds with names, numbers and the indices of operands.
func nodes(list string) []api.Node {
	var l []api.Node
	for part := range strings.SplitSeq(list, ", ") {
		words := strings.Fields(part)
		n := api.Node{Kind: kinds[words[0]]}
		for _, w := range words[1:] {
			k, err := strconv.Atoi(strings.TrimPrefix(w, "@"))
			switch {
			case err != nil:
				n.Name = w
			case w[0] == '@':
				n.Of = append(n.Of, k)
			default:
				n.N = k
			}
		}
		l = append(l, n)
	}
	return l
}

// equal returns whether two programs are equal; an empty list may be nil.
func equal(p, q api.Program) bool {
	return p.Root == q.Root && p.Points == q.Points && slices.Equal(p.Inputs, q.Inputs) &&
		slices.EqualFunc(p.Nodes, q.Nodes, func(a, b api.Node) bool {
			return a.Kind == b.Kind && a.N == b.N && a.Name == b.Name && slices.Equal(a.Of, b.Of)
		})
}

// parsed reports an error if a text does not have these nodes (see nodes), or has inputs.
func parsed(t *testing.T, text, list string) {
	t.Helper()
	want := api.Program{Nodes: nodes(list)}
	want.Root = len(want.Nodes) - 1
	for _, n := range want.Nodes {
		if n.Kind == api.SIf {
			want.Points++
		}
	}
	if p, err := Of(text); err != api.OK || !equal(p, want) {
		t.Errorf("Of(%q) = %v, %d, want %v", text, p, err, want)
	}
}

// refused reports an error if a text is not refused with an error.
func refused(t *testing.T, text string, code api.Errno) {
	t.Helper()
	if p, err := Of(text); err != code || len(p.Inputs)+len(p.Nodes)+p.Root+p.Points != 0 {
		t.Errorf("Of(%.60q), %d bytes, = %v, %d, want %d", text, len(text), p, err, code)
	}
}

// grammar is the grammar of the chapter, as it stands there.
const grammar = `
program = { input } { stmt }
input   = "input" name ( "strap" num | "fuse" num num | "slot" | "mail" num ) ";"
stmt    = "let" name "=" expr ";" | "if" expr block [ "else" block ] | "repeat" num block | "note" expr ";" | "halt" num ";" | "accept" ";"
block   = "{" { stmt } "}"
expr    = and { "||" and }
and     = cmp { "&&" cmp }
cmp     = sum [ ( "<" | "==" ) sum ]
sum     = prod { ( "+" | "-" ) prod }
prod    = unary { "*" unary }
unary   = "!" unary | num | name | "(" expr ")"
`

// rule is a part of the grammar: a quoted token or a name (mark 0), or the alternatives of a group ('('), of an optional part ('[') or of a repeated one ('{').
type rule struct {
	mark byte
	word string
	or   [][]rule
}

// alternatives reads alternatives up to the end of the words or a closing mark, and returns the words behind it.
func alternatives(words []string) (or [][]rule, rest []string) {
	or = [][]rule{nil}
	for len(words) > 0 {
		w := words[0]
		words = words[1:]
		r := rule{word: w}
		switch w {
		case ")", "]", "}":
			return or, words
		case "|":
			or = append(or, nil)
			continue
		case "(", "[", "{":
			r.mark = w[0]
			r.or, words = alternatives(words)
		}
		or[len(or)-1] = append(or[len(or)-1], r)
	}
	return or, nil
}

// productions are the productions of the grammar by name.
var productions = func() map[string][][]rule {
	all := map[string][][]rule{}
	for line := range strings.Lines(strings.TrimSpace(grammar)) {
		words := strings.Fields(line)
		all[words[0]], _ = alternatives(words[2:])
	}
	return all
}()

// part is what a production or a token of the grammar matches.
type part struct {
	rule  string
	token api.Token
	of    []part
}

// match matches the tokens with the first alternative that fits, and returns the parts and the tokens behind them.
func match(or [][]rule, l []api.Token) ([]part, []api.Token, bool) {
next:
	for _, sequence := range or {
		var parts []part
		rest := l
		for _, r := range sequence {
			more, behind, ok := matchOne(r, rest)
			if !ok {
				continue next
			}
			parts, rest = append(parts, more...), behind
		}
		return parts, rest, true
	}
	return nil, l, false
}

func matchOne(r rule, l []api.Token) (parts []part, rest []api.Token, ok bool) {
	switch r.mark {
	case '(':
		return match(r.or, l)
	case '[':
		parts, rest, _ = match(r.or, l)
		return parts, rest, true
	case '{':
		for {
			more, behind, ok := match(r.or, l)
			if !ok {
				return parts, l, true
			}
			parts, l = append(parts, more...), behind
		}
	}
	if or, ok := productions[r.word]; ok {
		parts, rest, ok = match(or, l)
		return []part{{rule: r.word, of: parts}}, rest, ok
	}
	if len(l) == 0 {
		return nil, l, false
	}
	switch r.word {
	case "name":
		ok = l[0].Kind == 1 && !slices.Contains(keywords, l[0].Text)
	case "num":
		ok = l[0].Kind == 2
	default:
		ok = strconv.Quote(l[0].Text) == r.word
	}
	return []part{{rule: r.word, token: l[0]}}, l[1:], ok
}

// other parses a text in another way than Of: it matches the grammar, and then makes the nodes.
func other(text string) (api.Program, api.Errno) {
	l, err := lex.Tokens(text)
	if err != api.OK {
		return api.Program{}, err
	}
	if otherDepth(l) > 30 {
		return api.Program{}, 2
	}
	parts, rest, _ := match(productions["program"], l)
	if len(rest) > 0 {
		return api.Program{}, 3
	}
	points := map[int]int{}
	for _, t := range l {
		if t.Text == "if" {
			points[t.At] = len(points)
		}
	}
	p := api.Program{Points: len(points)}
	for len(parts) > 0 && parts[0].rule == "input" {
		p.Inputs = append(p.Inputs, declared(parts[0].of))
		parts = parts[1:]
	}
	m := maker{points: points}
	p.Root = m.add(api.Node{Kind: kinds["SBlock"], Of: m.all(parts)})
	p.Nodes = m.nodes
	if len(p.Nodes) > 400 {
		return api.Program{}, 2
	}
	return p, 0
}

func otherDepth(l []api.Token) int {
	depths := []int{0}
	for _, t := range l {
		d := depths[len(depths)-1]
		depths = append(depths, d+strings.Count("({", t.Text)*len(t.Text)-strings.Count(")}", t.Text)*len(t.Text))
	}
	return slices.Max(depths)
}

// declared returns the input of the parts "input", a name, a kind, its numbers and ";".
func declared(of []part) api.Input {
	in := api.Input{Name: of[1].token.Text, Kind: map[string]int{"strap": 1, "fuse": 2, "slot": 3, "mail": 4}[of[2].token.Text]}
	switch in.Kind {
	case 1:
		in.N = of[3].token.N
	case 2:
		in.N, in.Limit = of[3].token.N, of[4].token.N
	case 4:
		in.Limit = of[3].token.N
	}
	return in
}

// maker makes nodes; points are the numbers of the branch points by the offsets of their keywords.
type maker struct {
	nodes  []api.Node
	points map[int]int
}

func (m *maker) add(n api.Node) int {
	m.nodes = append(m.nodes, n)
	return len(m.nodes) - 1
}

// all makes the nodes of the parts that have any, and returns their indices.
func (m *maker) all(parts []part) []int {
	var l []int
	for _, p := range parts {
		switch p.rule {
		case "stmt":
			l = append(l, m.statement(p.of))
		case "block":
			l = append(l, m.add(api.Node{Kind: kinds["SBlock"], Of: m.all(p.of)}))
		case "expr", "and", "cmp", "sum", "prod":
			l = append(l, m.chain(p.of))
		case "unary":
			l = append(l, m.unary(p.of))
		}
	}
	return l
}

func (m *maker) statement(of []part) int {
	word := of[0].token.Text
	n := api.Node{Kind: kinds["S"+strings.ToUpper(word[:1])+word[1:]], Of: m.all(of)}
	if word == "if" {
		n.N = m.points[of[0].token.At]
	}
	for _, p := range of {
		switch p.rule {
		case "name":
			n.Name = p.token.Text
		case "num":
			n.N = p.token.N
		}
	}
	return m.add(n)
}

func (m *maker) chain(of []part) int {
	left := m.all(of[:1])[0]
	for i := 1; i < len(of); i += 2 {
		right := m.all(of[i+1 : i+2])[0]
		for _, b := range binary {
			if b.sign == of[i].token.Text {
				left = m.add(api.Node{Kind: b.kind, Of: []int{left, right}})
				break
			}
		}
	}
	return left
}

func (m *maker) unary(of []part) int {
	switch of[0].rule {
	case "num":
		return m.add(api.Node{Kind: 1, N: of[0].token.N})
	case "name":
		return m.add(api.Node{Kind: 2, Name: of[0].token.Text})
	case `"!"`:
		return m.add(api.Node{Kind: 10, Of: m.all(of)})
	}
	return m.all(of)[0]
}

// same reports an error if Of does not return what the other implementation returns, or if the result breaks a promise about every program. It returns whether the text is a program.
func same(t *testing.T, text string) bool {
	t.Helper()
	p, err := Of(text)
	want, code := other(text)
	if err != code || !equal(p, want) {
		t.Errorf("Of(%q) = %v, %d, want %v, %d", text, p, err, want, code)
		return false
	}
	if err == api.OK {
		owned(t, text, p)
		printed(t, text, p)
	}
	return err == api.OK
}

// owned reports an error if a node other than the root is not the operand of exactly one node, which follows it, or if the root is not the last node.
func owned(t *testing.T, text string, p api.Program) {
	t.Helper()
	owners := make([]int, len(p.Nodes))
	for i, n := range p.Nodes {
		for _, k := range n.Of {
			if k < 0 || k >= i {
				t.Errorf("Of(%q): operand %d of the node %d", text, k, i)
				return
			}
			owners[k]++
		}
	}
	for i, n := range owners {
		if n != 1 && i != p.Root || n != 0 && i == p.Root {
			t.Errorf("Of(%q): the node %d is an operand of %d nodes", text, i, n)
		}
	}
	if p.Root != len(p.Nodes)-1 || p.Nodes[p.Root].Kind != api.SBlock {
		t.Errorf("Of(%q): root %d of %d nodes", text, p.Root, len(p.Nodes))
	}
}

// printed reports an error if the Text of a program is not what the other implementation prints, or is not parsed as that program.
func printed(t *testing.T, text string, p api.Program) {
	t.Helper()
	s := Text(p)
	if want := otherText(p); s != want {
		t.Errorf("Text of %q = %q, want %q", text, s, want)
		return
	}
	l, err := lex.Tokens(s)
	if len(s) > 1500 || Depth(l) > 30 {
		refused(t, s, api.ErrLimit)
		return
	}
	if q, code := Of(s); err != api.OK || code != api.OK || !equal(p, q) {
		t.Errorf("Of(%q), the Text of %q, = %v, %d, want %v", s, text, q, code, p)
	}
}

// otherText prints a program in another way than Text: it prints all tokens with spaces, and takes out those that are not wanted.
func otherText(p api.Program) string {
	var l []string
	for _, in := range p.Inputs {
		l = append(l, "input", in.Name)
		switch in.Kind {
		case 1:
			l = append(l, "strap", fmt.Sprint(in.N))
		case 2:
			l = append(l, "fuse", fmt.Sprint(in.N), fmt.Sprint(in.Limit))
		case 3:
			l = append(l, "slot")
		case 4:
			l = append(l, "mail", fmt.Sprint(in.Limit))
		}
		l = append(l, ";")
	}
	root := spelled(p, p.Root)
	l = append(l, root[1:len(root)-1]...) // without its braces
	s := ""
	for _, w := range l {
		if s != "" && !strings.ContainsAny(s[len(s)-1:]+w[:1], "{}();=+-*<&|!") {
			s += " "
		}
		s += w
	}
	return s
}

// spelled returns the tokens of a node.
func spelled(p api.Program, i int) []string {
	n := p.Nodes[i]
	var of [][]string
	for _, k := range n.Of {
		of = append(of, spelled(p, k))
	}
	all := slices.Concat(of...)
	switch n.Kind {
	case 1:
		return []string{fmt.Sprint(n.N)}
	case 2:
		return []string{n.Name}
	case 10:
		return append([]string{"!"}, all...)
	case 11:
		return append(append([]string{"let", n.Name, "="}, all...), ";")
	case 12:
		l := slices.Concat([]string{"if"}, of[0], of[1])
		for _, rest := range of[2:] {
			l = append(append(l, "else"), rest...)
		}
		return l
	case 13:
		return append([]string{"repeat", fmt.Sprint(n.N)}, all...)
	case 14:
		return append(append([]string{"note"}, all...), ";")
	case 15:
		return []string{"halt", fmt.Sprint(n.N), ";"}
	case 16:
		return []string{"accept", ";"}
	case 17:
		return append(append([]string{"{"}, all...), "}")
	}
	for _, b := range binary {
		if b.kind == n.Kind {
			return slices.Concat([]string{"("}, of[0], []string{b.sign}, of[1], []string{")"})
		}
	}
	return []string{"?"}
}

// P13.1: the depth of no token, of lists that close more than they open, of parentheses and braces mixed, and of long lists.
func TestDepth(t *testing.T) {
	for text, want := range map[string]int{
		"": 0, "a b 1 ; = + - * < == && || ! >=": 0,
		"(": 1, "{": 1, ")": 0, "}": 0, "()": 1, "{}": 1, "(}": 1, "{)": 1, ")(": 0, "}{": 0,
		"((": 2, "{{": 2, "({": 2, "{(": 2, "()()": 1, "(){}": 1, "{(})(": 2, "{(}{": 2, "{(}{ )(": 2,
		")))(((": 0, ")))((((": 1, "}}{(": 0, "}}{({": 1, "(()": 2, "((()())())": 3, "(x(1(y)))": 3, "((((}}}}": 4, "(((())))(": 4,
		"if (a) { note (((b))); }": 4, "repeat 3 { if !((a)) { } }": 3,
	} {
		l, err := lex.Tokens(text)
		if got := Depth(l); got != want || err != api.OK {
			t.Errorf("Depth of %q = %d, want %d", text, got, want)
		}
	}
	if got := Depth(nil); got != 0 {
		t.Errorf("Depth(nil) = %d", got)
	}
	for _, n := range []int{29, 30, 31, 1000, 100000} {
		l := make([]api.Token, n)
		for i := range l {
			l[i].Text = []string{"(", "{"}[i%2]
		}
		if got := Depth(l); got != n {
			t.Errorf("Depth of %d opening tokens = %d", n, got)
		}
	}
}

// P13.1: a token counts by its spelling, whatever its kind, number and offset are; tokens that only contain a parenthesis or a brace do not count.
func TestDepthOfSpellings(t *testing.T) {
	for kind := -1; kind <= 5; kind++ {
		for _, s := range []string{"(", "{"} {
			if got := Depth([]api.Token{{Kind: kind, Text: s, N: 7, At: -1}}); got != 1 {
				t.Errorf("Depth of a token %q of the kind %d = %d", s, kind, got)
			}
		}
		for _, s := range []string{")", "}"} {
			open := api.Token{Text: "("}
			if got := Depth([]api.Token{open, {Kind: kind, Text: s}, open}); got != 1 {
				t.Errorf("Depth with a token %q of the kind %d = %d", s, kind, got)
			}
		}
		for _, s := range []string{"", "((", "{{", "({", "()", "( ", " (", "[", "<", "x(", "（", "\x00(", "if"} {
			if got := Depth([]api.Token{{Kind: kind, Text: s, N: 40}}); got != 0 {
				t.Errorf("Depth of a token %q of the kind %d = %d", s, kind, got)
			}
		}
		for _, s := range []string{"", "))", "}}", ")(", ") ", "]", ">", "）"} {
			open := api.Token{Text: "("}
			if got := Depth([]api.Token{open, {Kind: kind, Text: s}, open}); got != 2 {
				t.Errorf("Depth with a token %q of the kind %d = %d", s, kind, got)
			}
		}
	}
}

// P13.1: Depth finds what the other implementation finds, for all short lists and for random ones.
func TestDepthOfAllLists(t *testing.T) {
	some := []string{"(", ")", "{", "}", "x"}
	check := func(words []string) {
		var l []api.Token
		for _, w := range words {
			l = append(l, api.Token{Text: w})
		}
		before := slices.Clone(l)
		if got, want := Depth(l), otherDepth(l); got != want {
			t.Errorf("Depth(%q) = %d, want %d", words, got, want)
		}
		if !slices.Equal(l, before) {
			t.Errorf("Depth changed %q to %v", words, l)
		}
	}
	for n := range 7 {
		each(n, some, check)
	}
	random := rand.New(rand.NewSource(1))
	for range 2000 {
		words := make([]string, random.Intn(200))
		for i := range words {
			words[i] = some[random.Intn(5)]
		}
		check(words)
	}
}

// each calls f with all lists of n words.
func each(n int, words []string, f func(l []string)) {
	l := make([]string, n)
	var fill func(i int)
	fill = func(i int) {
		if i == n {
			f(l)
			return
		}
		for _, w := range words {
			l[i] = w
			fill(i + 1)
		}
	}
	fill(0)
}

// P13.2: the nodes of each source of the chapter's table, and of its examples.
func TestNodes(t *testing.T) {
	for _, x := range []struct{ text, list string }{
		{"note 7;", "ENum 7, SNote @0, SBlock @1"},
		{"note x;", "EVar x, SNote @0, SBlock @1"},
		{"note a + b;", "EVar a, EVar b, EAdd @0 @1, SNote @2, SBlock @3"},
		{"note a - b;", "EVar a, EVar b, ESub @0 @1, SNote @2, SBlock @3"},
		{"note a * b;", "EVar a, EVar b, EMul @0 @1, SNote @2, SBlock @3"},
		{"note a < b;", "EVar a, EVar b, ELess @0 @1, SNote @2, SBlock @3"},
		{"note a == b;", "EVar a, EVar b, EEq @0 @1, SNote @2, SBlock @3"},
		{"note a && b;", "EVar a, EVar b, EAnd @0 @1, SNote @2, SBlock @3"},
		{"note a || b;", "EVar a, EVar b, EOr @0 @1, SNote @2, SBlock @3"},
		{"note !a;", "EVar a, ENot @0, SNote @1, SBlock @2"},
		{"let x = a;", "EVar a, SLet x @0, SBlock @1"},
		{"halt 7;", "SHalt 7, SBlock @0"},
		{"accept;", "SAccept, SBlock @0"},
		{"if a { note b; }", "EVar a, EVar b, SNote @1, SBlock @2, SIf 0 @0 @3, SBlock @4"},
		{"if a { note b; } else { halt 3; }", "EVar a, EVar b, SNote @1, SBlock @2, SHalt 3, SBlock @4, SIf 0 @0 @3 @5, SBlock @6"},
		{"repeat 5 { accept; }", "SAccept, SBlock @0, SRepeat 5 @1, SBlock @2"},
		{"repeat 1 { repeat 2 { repeat 3 { } } }", "SBlock, SRepeat 3 @0, SBlock @1, SRepeat 2 @2, SBlock @3, SRepeat 1 @4, SBlock @5"},
		{"if a { }", "EVar a, SBlock, SIf 0 @0 @1, SBlock @2"},
		{"if a { } else { }", "EVar a, SBlock, SBlock, SIf 0 @0 @1 @2, SBlock @3"},
		{"", "SBlock"}, {" ", "SBlock"}, {"\t\n  \n", "SBlock"}, {strings.Repeat("\n", 1500), "SBlock"},
		{"accept; halt 1; accept;", "SAccept, SHalt 1, SAccept, SBlock @0 @1 @2"},
		{"repeat 0 { accept; let x = 1; note 2; }", "SAccept, ENum 1, SLet x @1, ENum 2, SNote @3, SBlock @0 @2 @4, SRepeat 0 @5, SBlock @6"},
		{"note ((((x))));", "EVar x, SNote @0, SBlock @1"},
		{"note (a + b) * !(c);", "EVar a, EVar b, EAdd @0 @1, EVar c, ENot @3, EMul @2 @4, SNote @5, SBlock @6"},
		{"let a = 0; let a = 65535;", "ENum 0, SLet a @0, ENum 65535, SLet a @2, SBlock @1 @3"},
		{"halt 0; halt 65535; repeat 65535 { }", "SHalt 0, SHalt 65535, SBlock, SRepeat 65535 @2, SBlock @0 @1 @3"},
	} {
		parsed(t, x.text, x.list)
	}
	p, err := Of("input s strap 0; if s == 1 { halt 7; }")
	want := api.Program{Inputs: []api.Input{{Name: "s", Kind: 1}}, Nodes: nodes("EVar s, ENum 1, EEq @0 @1, SHalt 7, SBlock @3, SIf 0 @2 @4, SBlock @5"), Root: 6, Points: 1}
	if err != api.OK || !equal(p, want) {
		t.Errorf("the example = %v, %d, want %v", p, err, want)
	}
}

// P13.2: the branch points are numbered in the order of their keywords, nested, one behind the other, in else parts and in repeats.
func TestPoints(t *testing.T) {
	for _, x := range []struct {
		text string
		want []int // the numbers of the branch points, in the order of their nodes
	}{
		{"accept;", nil},
		{"if a { }", []int{0}},
		{"if a { } if b { } if c { }", []int{0, 1, 2}},
		{"if a { if b { if c { } } }", []int{2, 1, 0}},
		{"if a { if b { } if c { } } if d { }", []int{1, 2, 0, 3}},
		{"if a { } else { if b { } } if c { }", []int{1, 0, 2}},
		{"if a { if b { } else { if c { } } } else { if d { } if e { } }", []int{2, 1, 3, 4, 0}},
		{"repeat 3 { if a { } repeat 2 { if b { } } } if c { repeat 1 { if d { } } }", []int{0, 1, 3, 2}},
		{strings.Repeat("if a { } ", 20), []int{0, 1, 2, 3, 4, 5, 6, 7, 8, 9, 10, 11, 12, 13, 14, 15, 16, 17, 18, 19}},
	} {
		p, err := Of(x.text)
		var got []int
		for _, n := range p.Nodes {
			if n.Kind == api.SIf {
				got = append(got, n.N)
			}
		}
		if err != api.OK || p.Points != len(x.want) || !slices.Equal(got, x.want) {
			t.Errorf("Of(%q): %d branch points %v, %d, want %v", x.text, p.Points, got, err, x.want)
		}
		same(t, x.text)
	}
}

// P13.2: every kind of input, alone, in every order, and in front of every kind of statement.
func TestInputs(t *testing.T) {
	texts := []string{"input a strap 3;", "input b fuse 1 65535;", "input c slot;", "input a mail 9;", "input inputs fuse 0 0;"}
	inputs := map[string]api.Input{
		texts[0]: {Name: "a", Kind: api.InStrap, N: 3},
		texts[1]: {Name: "b", Kind: api.InFuse, N: 1, Limit: 65535},
		texts[2]: {Name: "c", Kind: api.InSlot},
		texts[3]: {Name: "a", Kind: api.InMail, Limit: 9},
		texts[4]: {Name: "inputs", Kind: api.InFuse},
	}
	for n := range 6 {
		each(n, texts, func(l []string) {
			want := api.Program{Nodes: nodes("SAccept, SBlock @0"), Root: 1}
			for _, s := range l {
				want.Inputs = append(want.Inputs, inputs[s])
			}
			text := strings.Join(l, "") + "accept;"
			if p, err := Of(text); err != api.OK || !equal(p, want) {
				t.Errorf("Of(%q) = %v, %d, want %v", text, p, err, want)
			}
			if n > 0 {
				refused(t, "accept;"+strings.Join(l, ""), api.ErrSyntax)
			}
		})
	}
	for _, in := range texts {
		for _, s := range []string{"let x = 1;", "if x { }", "if x { } else { }", "repeat 2 { }", "note 1;", "halt 3;", "accept;"} {
			same(t, in+s)
			refused(t, s+in, api.ErrSyntax)
			refused(t, "repeat 2 {"+in+"}", api.ErrSyntax)
			refused(t, in+s+in, api.ErrSyntax)
		}
	}
	// No number is checked here, and neither is how many inputs there are or whether their names differ.
	many := strings.Repeat("input a strap 65535;", 75)
	if p, err := Of(many); err != api.OK || len(p.Inputs) != 75 || p.Inputs[74] != (api.Input{Name: "a", Kind: 1, N: 65535}) {
		t.Errorf("Of(%q) = %v, %d", many, p, err)
	}
}

// P13.2: texts with a missing, surplus or misplaced token.
func TestSyntax(t *testing.T) {
	for _, s := range []string{
		"input", "input;", "input a;", "input a strap;", "input a strap 1", "input a strap 1 2;", "input strap 1;", "input a b strap 1;", "input 1 strap 1;", "input a strap b;", "strap 1;", "a strap 1;",
		"input a fuse;", "input a fuse 1;", "input a fuse 1 2", "input a fuse 1 2 3;", "input a fuse b 2;", "input a fuse 1 b;", "input fuse 1 2;", "input a fuse 1, 2;",
		"input a slot", "input a slot 1;", "input a slot b;", "input slot;", "input a slot slot;", "input a slot input b slot;",
		"input a mail;", "input a mail 1", "input a mail 1 2;", "input a mail b;", "input mail 1;", "input a mail -1;",
		"input input slot;", "input strap strap 0;", "input a slot;; input b slot;", "input a slot; }", "{ input a slot; }", "input a x 1;", "input a 1;", "input a strap (1);",
		"let", "let;", "let x", "let x;", "let x =", "let x =;", "let x = 1", "let x 1;", "let = 1;", "let 1 = 1;", "let x == 1;", "let x = y = 1;", "let x = 1 2;", "let x y = 1;", "x = 1;", "let let = 1;", "let x = let;", "let (x) = 1;",
		"if", "if x", "if x {", "if x }", "if { }", "if x accept;", "if x { } else", "if x { } else accept;", "if x { } else {", "if x { } else if y { }", "if x { } else { } else { }", "else { }", "else", "if x { };", "if x else { }", "if x { accept }", "if x { } { }", "if x y { }", "if (x { })", "if if { }",
		"repeat", "repeat { }", "repeat 1", "repeat 1;", "repeat 1 {", "repeat x { }", "repeat 1 2 { }", "repeat 1 accept;", "repeat (1) { }", "repeat 1 { };", "repeat 1 { } else { }", "repeat 1 + 1 { }",
		"note", "note;", "note 1", "note 1 2;", "note x y;", "note note;", "note = 1;", "note ();", "note (;", "note (1;", "note 1);", "note (1));", "note ((1);", "note {1};", "note (1 2);", "note 1;;",
		"halt", "halt;", "halt 1", "halt x;", "halt 1 2;", "halt (1);", "halt 1 + 1;", "halt -1;", "halt !1;", "accept", "accept accept;", "accept 1;", "accept();", "accept;;", ";", ";accept;",
		"note !;", "note 1 !;", "note 1 ! 2;", "note !!;", "note ! * 1;", "note 1 !< 2;", "note -1;", "note +1;", "note 1 - - 1;", "note 1 + + 1;",
		"note 1 >= 2;", "note 1 = 2;", "note 1 >= ;", ">=", "let x >= 1;", "note (1 >= 2);",
		"note 1 +;", "note 1 -;", "note 1 *;", "note 1 <;", "note 1 ==;", "note 1 &&;", "note 1 ||;", "note + 1;", "note * 1;", "note < 1;", "note == 1;", "note && 1;", "note || 1;",
		"note a < b < c;", "note a == b == c;", "note a < b == c;", "note a == b < c;", "note a < b && c < d < e;", "note (a < b < c);", "note a < b + c < d;", "note a + b == c * d == e;", "if a < b < c { }", "let x = a == b == c;",
		"{", "}", "{ }", "{ accept; }", "accept; }", "accept; {", "accept; { }", "accept; )", "accept; (", "accept; x", "accept; 1", "accept; else", "accept; strap", "x", "1", "(", ")", "(accept;)", "x;", "1;",
	} {
		refused(t, s, api.ErrSyntax)
		refused(t, "input q slot;"+s, api.ErrSyntax)
		refused(t, "repeat 2 { repeat 3 { repeat 4 { accept; "+s, api.ErrSyntax)
	}
}

// P13.2: keywords are not names, in any place where a name may stand; names that begin or end with a keyword, or differ in their case, are names.
func TestKeywords(t *testing.T) {
	places := []string{"input %s slot;", "let %s = 1;", "note %s;", "note 1 + %s;", "note (!%s);", "if %s { }"}
	for _, k := range keywords {
		for _, place := range places {
			refused(t, fmt.Sprintf(place, k), api.ErrSyntax)
			for _, name := range []string{k + "s", k + "_", k + "0", "x" + k, strings.ToUpper(k), strings.ToUpper(k[:1]) + k[1:], k[:len(k)-1], k[:1]} {
				text := fmt.Sprintf(place, name)
				if p, err := Of(text); err != api.OK || !slices.ContainsFunc(p.Nodes, func(n api.Node) bool { return n.Name == name }) && (len(p.Inputs) != 1 || p.Inputs[0].Name != name) {
					t.Errorf("Of(%q) = %v, %d", text, p, err)
				}
				same(t, text)
			}
		}
		// A keyword stands for itself only where the grammar says so.
		refused(t, k+" = 1;", api.ErrSyntax)
		refused(t, strings.ToUpper(k)+" 1;", api.ErrSyntax)
	}
	for _, s := range []string{"inputs a slot;", "Input a slot;", "input a straps 1;", "input a Slot;", "lets x = 1;", "iff x { }", "IF x { }", "if x { } Else { }", "repeats 1 { }", "notes 1;", "halts 1;", "accepts;", "Accept;", "input a mailbox 1;", "input a fuses 1 2;"} {
		refused(t, s, api.ErrSyntax)
	}
}

// P13.2: what is left of statements and inputs that are cut behind each token, or in which a token is left out, replaced by another or added, is parsed as the grammar says.
func TestDamagedTexts(t *testing.T) {
	good := 0
	check := func(words ...string) {
		if same(t, strings.Join(words, " ")) {
			good++
		}
	}
	for _, text := range []string{
		"input a strap 1 ;", "input a fuse 1 2 ;", "input a slot ;", "input a mail 3 ; input b slot ; accept ;",
		"let x = 1 ;", "let x = a + 1 ;", "if x { }", "if x { } else { }", "if x { accept ; } else { halt 1 ; } note 2 ;", "repeat 2 { }", "repeat 2 { accept ; } accept ;",
		"note 1 ;", "note ( a + b ) * ! c ;", "halt 3 ;", "accept ;", "note a < b && c == d || ! e ;", "note a - b - c ;", "if a == 1 { if b { } } else { repeat 1 { let c = d ; } }",
	} {
		words := strings.Fields(text)
		for i := range words {
			front, back := words[:i:i], words[i+1:]
			check(front...)
			check(append(front, back...)...)
			for _, other := range everyToken {
				check(append(append(front, other), back...)...)
				check(append(append(front, other), words[i:]...)...)
			}
		}
		check(words...)
		for _, other := range everyToken {
			check(append(words, other)...)
		}
	}
	if good < 350 {
		t.Errorf("%d of the texts are programs", good)
	}
}

// P13.2: all short texts, and all short texts within an expression, a block and an input, are parsed as the grammar says.
func TestAllShortTexts(t *testing.T) {
	good := 0
	all := func(n int, front, back string, words []string) {
		for k := range n + 1 {
			each(k, words, func(l []string) {
				if same(t, front+strings.Join(l, " ")+back) {
					good++
				}
			})
		}
	}
	all(3, "", "", everyToken)
	all(5, "note ", ";", []string{"x", "1", "(", ")", "!", "+", "<", "&&"})
	all(5, "note ", ";", []string{"a", "-", "*", "==", "||", "<"})
	all(4, "if ", "", []string{"x", "{", "}", "else", "if", "accept;", ";", "("})
	all(5, "repeat 1 {", "}", []string{"if x {", "}", "else {", "note 1;", "repeat 2 {"})
	all(4, "input ", "", []string{"a", "1", "strap", "fuse", "slot", "mail", ";", "input"})
	if good < 450 {
		t.Errorf("%d of the texts are programs", good)
	}
}

// P13.2: every two operators bind as their productions say, in both orders, with and without parentheses, and chains of one operator group to the left.
func TestBinaryOperators(t *testing.T) {
	for _, a := range binary {
		for _, b := range binary {
			left := fmt.Sprintf("EVar a, EVar b, E%s @0 @1, EVar c, E%s @2 @3, SNote @4, SBlock @5", kindName(a.kind), kindName(b.kind))
			right := fmt.Sprintf("EVar a, EVar b, EVar c, E%s @1 @2, E%s @0 @3, SNote @4, SBlock @5", kindName(b.kind), kindName(a.kind))
			text := fmt.Sprintf("note a %s b %s c;", a.sign, b.sign)
			switch {
			case a.rank == 3 && b.rank == 3:
				refused(t, text, api.ErrSyntax)
			case a.rank < b.rank:
				parsed(t, text, right)
			default:
				parsed(t, text, left)
			}
			parsed(t, fmt.Sprintf("note (a %s b) %s c;", a.sign, b.sign), left)
			parsed(t, fmt.Sprintf("note a %s (b %s c);", a.sign, b.sign), right)
			parsed(t, fmt.Sprintf("note (a %s (b %s (c)));", a.sign, b.sign), right)
			for _, c := range binary {
				for _, f := range []string{"note a %s b %s c %s d;", "note !a %s !b %s !(c %s d);", "if a %s (b %s c) %s d { }", "let x = (a %s b) %s (c %s d);", "note a %s (b %s c %s d);"} {
					same(t, fmt.Sprintf(f, a.sign, b.sign, c.sign))
				}
			}
		}
		if a.rank != 3 {
			parsed(t, fmt.Sprintf("note 1 %s 2 %[1]s 3 %[1]s 4;", a.sign), strings.ReplaceAll("ENum 1, ENum 2, E? @0 @1, ENum 3, E? @2 @3, ENum 4, E? @4 @5, SNote @6, SBlock @7", "?", kindName(a.kind)))
		}
	}
	same(t, "note a || b && c < d + e * f;")
	same(t, "note a * b + c < d && e || f;")
	same(t, "note a || b || c && d && e || f;")
	same(t, "note a - b + c - d * e * f - g;")
	same(t, "note a < b && c == d && e < f || g == h;")
}

// kindName returns the name of a kind of nodes, without its first letter.
func kindName(kind int) string {
	for name, k := range kinds {
		if k == kind {
			return name[1:]
		}
	}
	return "?"
}

// P13.2: '!' binds more tightly than every binary operator.
func TestNot(t *testing.T) {
	parsed(t, "note !1;", "ENum 1, ENot @0, SNote @1, SBlock @2")
	parsed(t, "note !!x;", "EVar x, ENot @0, ENot @1, SNote @2, SBlock @3")
	parsed(t, "note !(x);", "EVar x, ENot @0, SNote @1, SBlock @2")
	parsed(t, "note !(!x);", "EVar x, ENot @0, ENot @1, SNote @2, SBlock @3")
	parsed(t, "note (!x);", "EVar x, ENot @0, SNote @1, SBlock @2")
	parsed(t, "if !x { }", "EVar x, ENot @0, SBlock, SIf 0 @1 @2, SBlock @3")
	for _, b := range binary {
		name := kindName(b.kind)
		parsed(t, "note !x "+b.sign+" y;", "EVar x, ENot @0, EVar y, E"+name+" @1 @2, SNote @3, SBlock @4")
		parsed(t, "note x "+b.sign+" !y;", "EVar x, EVar y, ENot @1, E"+name+" @0 @2, SNote @3, SBlock @4")
		parsed(t, "note !(x "+b.sign+" y);", "EVar x, EVar y, E"+name+" @0 @1, ENot @2, SNote @3, SBlock @4")
		parsed(t, "note !!x "+b.sign+" !!y;", "EVar x, ENot @0, ENot @1, EVar y, ENot @3, ENot @4, E"+name+" @2 @5, SNote @6, SBlock @7")
	}
	many := "note " + strings.Repeat("!", 397) + "x;"
	if p, err := Of(many); err != api.OK || len(p.Nodes) != 400 || p.Nodes[397].Kind != api.ENot || p.Nodes[397].Of[0] != 396 {
		t.Errorf("Of(%q): %d nodes, %d", many, len(p.Nodes), err)
	}
}

// nested returns a text whose parentheses and braces are nested so deeply; of the open ones, the first so many are braces.
func nested(depth, braces int) string {
	parens := depth - braces
	return strings.Repeat("if x { ", braces) + "note " + strings.Repeat("(", parens) + "1" + strings.Repeat(")", parens) + "; " + strings.Repeat("} ", braces)
}

// P13.2: the nesting depth is limited, by parentheses, by braces and mixed; this error precedes those of the grammar.
func TestDepthLimit(t *testing.T) {
	for braces := range 32 {
		for depth := 29; depth <= 32; depth++ {
			if braces > depth {
				continue
			}
			text := nested(depth, braces)
			if depth > 30 {
				refused(t, text, api.ErrLimit)
				refused(t, text+"x", api.ErrLimit)
				refused(t, "x"+text, api.ErrLimit)
				refused(t, text[:strings.LastIndex(text, ";")], api.ErrLimit)
				continue
			}
			if !same(t, text) {
				t.Errorf("%q is not a program", text)
			}
			refused(t, text+"x", api.ErrSyntax)
			refused(t, "x"+text, api.ErrSyntax)
		}
	}
	for _, x := range []struct {
		text string
		code api.Errno
	}{
		{strings.Repeat("(", 30), api.ErrSyntax}, {strings.Repeat("(", 31), api.ErrLimit},
		{strings.Repeat("{", 30), api.ErrSyntax}, {strings.Repeat("{", 31), api.ErrLimit},
		{strings.Repeat("({", 15), api.ErrSyntax}, {strings.Repeat("({", 15) + "(", api.ErrLimit},
		{strings.Repeat(")", 31), api.ErrSyntax}, {"}" + strings.Repeat("(", 31), api.ErrSyntax}, {"}" + strings.Repeat("(", 32), api.ErrLimit},
		{strings.Repeat("()", 200), api.ErrSyntax}, {"x" + strings.Repeat("(", 31) + strings.Repeat(")", 31), api.ErrLimit},
		{"note 1; }" + strings.Repeat("{", 31), api.ErrSyntax}, {"note 1; }" + strings.Repeat("{", 32), api.ErrLimit},
	} {
		refused(t, x.text, x.code)
	}
}

// sums returns a text with n nodes, for n from 3.
func sums(n int) string {
	return strings.Repeat("accept;", 1-n%2) + "note 1" + strings.Repeat("+1", (n-3)/2) + ";"
}

// P13.2: the number of nodes is limited; a malformed text is malformed, however many nodes it would have.
func TestNodeLimit(t *testing.T) {
	for n := 3; n <= 500; n++ {
		text := sums(n)
		p, err := Of(text)
		if n <= 400 && (err != api.OK || len(p.Nodes) != n) {
			t.Errorf("Of(%q): %d nodes, %d, want %d", text, len(p.Nodes), err, n)
		}
		if n > 400 {
			refused(t, text, api.ErrLimit)
		}
		same(t, text)
	}
	for _, text := range []string{
		strings.Repeat("accept;", 399), strings.Repeat("accept;", 400)[:1500], strings.Repeat("halt 1;", 214), strings.Repeat("if a{}", 133), strings.Repeat("if a{}", 134),
		strings.Repeat("repeat 1{}", 150), "note " + strings.Repeat("!", 397) + "1;", "note " + strings.Repeat("!", 398) + "1;", "note " + strings.Repeat("!", 1490) + "1;",
		strings.Repeat("note 1;", 199), strings.Repeat("note 1;", 200), strings.Repeat("input a slot;", 115), strings.Repeat("input a slot;", 10) + sums(400), strings.Repeat("input a slot;", 10) + sums(401),
	} {
		same(t, text)
	}
	for _, n := range []int{399, 400, 401, 402, 500} {
		text := sums(n)
		for _, s := range []string{"x" + text, text + "x", text + "}", text + "input a slot;", text[:len(text)-1], text[:len(text)-2], text + "note 1", text + "else { }", ">=" + text} {
			refused(t, s, api.ErrSyntax)
		}
	}
}

// P13.2: if several errors apply, the first one in the order of the chapter is returned.
func TestOrderOfErrors(t *testing.T) {
	deep := nested(31, 10)
	large := sums(401)
	for _, x := range []struct {
		text string
		code api.Errno
	}{
		{deep, api.ErrLimit}, {large, api.ErrLimit}, {deep + large, api.ErrLimit}, {large + deep, api.ErrLimit},
		{"$", api.ErrSyntax}, {deep + "$", api.ErrSyntax}, {"$" + deep, api.ErrSyntax}, {large + "$", api.ErrSyntax}, {deep + large + "x $", api.ErrSyntax},
		{deep + "65536", api.ErrSyntax}, {deep + "01", api.ErrSyntax}, {deep + "a234567890123", api.ErrSyntax}, {deep + "a23456789012", api.ErrLimit}, {deep + "é", api.ErrSyntax},
		{deep + "x", api.ErrLimit}, {"x" + deep, api.ErrLimit}, {deep + "x" + large, api.ErrLimit},
		{large + "x", api.ErrSyntax}, {"x" + large, api.ErrSyntax},
		{"accept" + large, api.ErrSyntax}, {"halt 65536;", api.ErrSyntax}, {"note 1 & 2;", api.ErrSyntax}, {"note _x;", api.ErrSyntax}, {"note 1x;", api.ErrSyntax},
		{"accept;\r\n", api.ErrSyntax}, {"let abcdefghijklm = 1;", api.ErrSyntax}, {"// accept;", api.ErrSyntax}, {"accept;\x00", api.ErrSyntax},
	} {
		refused(t, x.text, x.code)
		refused(t, x.text+strings.Repeat(" ", 1501-len(x.text)), api.ErrLimit)
	}
	same(t, "let abcdefghijkl = 65535;")
}

// P13.2: texts of MaxText bytes are parsed, longer ones are not, whatever they consist of.
func TestLongTexts(t *testing.T) {
	for _, s := range []string{"", "accept;", "note 1 + 2;", "if a { } else { }"} {
		for _, n := range []int{1499, 1500, 1501, 1502, 5000} {
			for _, text := range []string{s + strings.Repeat(" ", n-len(s)), strings.Repeat("\n", n-len(s)) + s} {
				p, err := Of(text)
				short, _ := Of(s)
				if n <= 1500 && (err != api.OK || !equal(p, short)) {
					t.Errorf("Of(%q, with white space up to %d bytes) = %v, %d", s, n, p, err)
				}
				if n > 1500 {
					refused(t, text, api.ErrLimit)
				}
			}
		}
	}
	for _, s := range []string{"$", "x", "(", "x ", "accept;", "é"} {
		long := strings.Repeat(s, 1501)
		refused(t, long, api.ErrLimit)
		refused(t, long[:1501], api.ErrLimit)
		same(t, long[:1500])
		same(t, long[:1499])
	}
}

// P13.3: the text of each kind of input and node: where its spaces and parentheses are.
func TestText(t *testing.T) {
	for text, want := range map[string]string{
		"": "", " \n": "",
		"input s strap 3;":                       "input s strap 3;",
		"input  f  fuse  0  65535  ;":            "input f fuse 0 65535;",
		"input w slot;":                          "input w slot;",
		"input m_1 mail 9;":                      "input m_1 mail 9;",
		"input a slot; input a strap 0; accept;": "input a slot;input a strap 0;accept;",
		"let x = 1;":                             "let x=1;",
		"let x = y;":                             "let x=y;",
		"let x = !y;":                            "let x=!y;",
		"let x = (y);":                           "let x=y;",
		"let x = y - 1;":                         "let x=(y-1);",
		"note 1;":                                "note 1;",
		"note x;":                                "note x;",
		"note(x);":                               "note x;",
		"note !x;":                               "note!x;",
		"note !!x;":                              "note!!x;",
		"note !(x);":                             "note!x;",
		"note !(x + 1);":                         "note!(x+1);",
		"note a + b;":                            "note(a+b);",
		"note a - b;":                            "note(a-b);",
		"note a * b;":                            "note(a*b);",
		"note a < b;":                            "note(a<b);",
		"note a == b;":                           "note(a==b);",
		"note a && b;":                           "note(a&&b);",
		"note a || b;":                           "note(a||b);",
		"note a - b - c;":                        "note((a-b)-c);",
		"note a - (b - c);":                      "note(a-(b-c));",
		"note a + b * c;":                        "note(a+(b*c));",
		"note !a == !b;":                         "note(!a==!b);",
		"note a < b && !c || 1 == 2;":            "note(((a<b)&&!c)||(1==2));",
		"halt 0;":                                "halt 0;",
		"halt 65535 ;":                           "halt 65535;",
		"accept ;":                               "accept;",
		"accept; accept; halt 1; note 2; let z = 3;": "accept;accept;halt 1;note 2;let z=3;",
		"if a { }":          "if a{}",
		"if 1 { } else { }": "if 1{}else{}",
		"if (a) { }":        "if a{}",
		"if !a { accept; }": "if!a{accept;}",
		"if a < 1 { note 1; } else { halt 2; note 3; }": "if(a<1){note 1;}else{halt 2;note 3;}",
		"if a { } if b { }":                             "if a{}if b{}",
		"if a { if b { } else { } }":                    "if a{if b{}else{}}",
		"if a { if b { } } else { }":                    "if a{if b{}}else{}",
		"if a { } else { if b { } }":                    "if a{}else{if b{}}",
		"repeat 3 { }":                                  "repeat 3{}",
		"repeat 0 { accept; repeat 1 { } } accept;":     "repeat 0{accept;repeat 1{}}accept;",
		"repeat 1 { } repeat 2 { }":                     "repeat 1{}repeat 2{}",
		"input s strap 0; if s == 1 { halt 7; }":        "input s strap 0;if(s==1){halt 7;}",
	} {
		p, err := Of(text)
		if got := Text(p); err != api.OK || got != want {
			t.Errorf("Text of %q = %q, %d, want %q", text, got, err, want)
		}
		same(t, text)
	}
}

// P13.3: words are kept apart whatever they begin and end with, and signs are not.
func TestTextOfNames(t *testing.T) {
	names := []string{"a", "z", "A", "Z", "a_", "a0", "a9", "az", "aZ", "m_m", "abcdefghijkl", "lets", "Let"}
	numbers := []string{"0", "9", "10", "65535"}
	for _, name := range names {
		for _, n := range numbers {
			for _, f := range []string{"input %s strap %s;", "input %s mail %s;", "input %s fuse %[2]s %[2]s;", "let %s=%s;", "if %s{repeat %s{}}", "if %s{halt %s;}", "note(%s+%s);", "note %s;note %s;", "note!%s;note %s;", "if(%s==%s){}else{}"} {
				text := fmt.Sprintf(f, name, n)
				p, err := Of(text)
				if got := Text(p); err != api.OK || got != text {
					t.Errorf("Text of %q = %q, %d", text, got, err)
				}
			}
		}
	}
}

// writer writes random programs, with random white space and surplus parentheses.
type writer struct {
	random *rand.Rand
	depth  int
}

func (w *writer) some(l ...string) string { return l[w.random.Intn(len(l))] }

func (w *writer) number() string {
	return w.some("0", "1", "2", "7", "65535", strconv.Itoa(w.random.Intn(65536)))
}

func (w *writer) name() string { return w.some("a", "b", "x_1", "inputs", "Q9", "abcdefghijkl") }

func (w *writer) gap() string { return w.some("", " ", "  ", "\n", "\t") }

func (w *writer) expr(size int) string {
	if size <= 1 {
		return w.some(w.number(), w.name())
	}
	switch k := w.random.Intn(8); k {
	case 0:
		return "!" + w.gap() + w.expr(size-1)
	case 1, 2:
		return "(" + w.gap() + w.expr(size-1) + ")"
	}
	at := 1 + w.random.Intn(size-1)
	return w.expr(at) + w.gap() + w.some("+", "-", "*", "<", "==", "&&", "||") + w.gap() + w.expr(size-at)
}

func (w *writer) block(size int) string { return "{" + w.gap() + w.statements(size) + "}" + w.gap() }

func (w *writer) statements(size int) string {
	s := ""
	for size > 0 {
		n := 1 + w.random.Intn(size)
		s += w.statement(n) + w.gap()
		size -= n
	}
	return s
}

func (w *writer) statement(size int) string {
	half := w.random.Intn(size)
	switch w.random.Intn(8) {
	case 0:
		return "let " + w.name() + w.gap() + "=" + w.expr(size) + ";"
	case 1:
		return "note " + w.expr(size) + w.gap() + ";"
	case 2:
		return "halt " + w.number() + ";"
	case 3:
		return "accept" + w.gap() + ";"
	case 4:
		return "repeat " + w.number() + w.gap() + w.block(size-1)
	case 5, 6:
		return "if " + w.expr(1+w.random.Intn(3)) + w.gap() + w.block(half) + "else" + w.gap() + w.block(size-half-1)
	}
	return "if " + w.expr(1+w.random.Intn(3)) + w.gap() + w.block(size-1)
}

func (w *writer) program(size int) string {
	s := w.gap()
	for range w.random.Intn(4) {
		s += "input " + w.name() + " " + w.some("slot", "strap "+w.number(), "mail "+w.number(), "fuse "+w.number()+" "+w.number()) + w.gap() + ";"
	}
	return s + w.statements(size)
}

// P13.2 to P13.4: random programs, and what is left of them when a token is left out, replaced or added, are parsed and printed as the other implementation does; parsing the printed text returns the same program.
func TestRandomPrograms(t *testing.T) {
	w := writer{random: rand.New(rand.NewSource(2))}
	good := 0
	for range 6000 {
		text := w.program(w.random.Intn(120))
		if same(t, text) {
			good++
		}
		l, err := lex.Tokens(text)
		if err != api.OK || len(l) == 0 {
			continue
		}
		i := w.random.Intn(len(l))
		at, end := l[i].At, l[i].At+len(l[i].Text)
		other := " " + w.some(everyToken...) + " "
		same(t, text[:at]+" "+text[end:])
		same(t, text[:at]+other+text[end:])
		same(t, text[:at]+other+text[at:])
		same(t, text[:at])
	}
	if good < 2000 {
		t.Errorf("%d of the texts are programs", good)
	}
}

// P13.4: white space between tokens does not affect the result, as long as the text is not longer than MaxText.
func TestWhiteSpace(t *testing.T) {
	w := writer{random: rand.New(rand.NewSource(3))}
	for range 2000 {
		text := w.program(w.random.Intn(40))
		p, err := Of(text)
		l, _ := lex.Tokens(text)
		s, tight := w.gap(), ""
		for i, token := range l {
			if i > 0 && l[i-1].Kind != api.TSign && token.Kind != api.TSign {
				s += w.some(" ", "\n", "\t")
				tight += " "
			}
			s += token.Text + w.gap() + w.gap()
			tight += token.Text
		}
		wide := strings.Repeat(" ", max(0, 1500-len(s))) + s
		for _, other := range []string{lex.Show(l), s, wide} {
			if len(other) > 1500 {
				refused(t, other, api.ErrLimit)
				continue
			}
			if q, code := Of(other); code != err || !equal(p, q) {
				t.Errorf("Of(%q) = %v, %d; Of(%q) = %v, %d", text, p, err, other, q, code)
			}
		}
		// In a program, no two signs in a row read as another one.
		if q, code := Of(tight); err == api.OK && (code != err || !equal(p, q)) {
			t.Errorf("Of(%q) = %v, %d; Of(%q) = %v, %d", text, p, err, tight, q, code)
		}
	}
	refused(t, "note a = = b;", api.ErrSyntax)
	refused(t, "note a & & b;", api.ErrSyntax)
	refused(t, "acc ept;", api.ErrSyntax)
	refused(t, "halt1;", api.ErrSyntax)
}

// P13.4: the printed text of a program may be too long or too deep to be parsed.
func TestTextBeyondTheLimits(t *testing.T) {
	chain := func(n int) string { return "note 1" + strings.Repeat("+1", n) + ";" }
	for n := 1; n <= 198; n++ {
		p, err := Of(chain(n))
		s := Text(p)
		if want := "note" + strings.Repeat("(", n) + "1" + strings.Repeat("+1)", n) + ";"; err != api.OK || s != want {
			t.Fatalf("Text of %q = %q, %d, want %q", chain(n), s, err, want)
		}
		if q, code := Of(s); n <= 30 && (code != api.OK || !equal(p, q)) {
			t.Errorf("Of(%q) = %v, %d", s, q, code)
		}
		if n > 30 {
			refused(t, s, api.ErrLimit)
		}
	}
	// The text of 50 sums is longer by 50 bytes than what is parsed here.
	for n := 1; n <= 6; n++ {
		text := strings.Repeat("input a strap 65535;", 49) + "input " + strings.Repeat("b", n) + " strap 65535;" + strings.Repeat("note x+1;", 50)
		p, err := Of(text)
		s := Text(p)
		if err != api.OK || len(s) != 1499+n {
			t.Errorf("Text of %q has %d bytes, %d", text, len(s), err)
		}
		if q, code := Of(s); n <= 1 && (code != api.OK || !equal(p, q)) {
			t.Errorf("Of(%q) = %v, %d", s, q, code)
		}
		if n > 1 {
			refused(t, s, api.ErrLimit)
		}
	}
}

// clone returns a copy of a program that shares no memory with it.
func clone(p api.Program) api.Program {
	q := api.Program{Inputs: slices.Clone(p.Inputs), Nodes: slices.Clone(p.Nodes), Root: p.Root, Points: p.Points}
	for i := range q.Nodes {
		q.Nodes[i].Of = slices.Clone(q.Nodes[i].Of)
	}
	return q
}

// Rules, Memory: arguments are not modified, and what a caller does with one result changes nothing else.
func TestMemory(t *testing.T) {
	text := "input a strap 1; input b slot; if a < b && !a { note a * 2; halt 3; } else { repeat 2 { let c = (a); } accept; } note b - 1 - 2;"
	p, err := Of(text)
	if err != api.OK {
		t.Fatal(err)
	}
	before := clone(p)
	s := Text(p)
	if Text(p) != s || !reflect.DeepEqual(p, before) {
		t.Errorf("Text changed %v to %v", before, p)
	}
	q, _ := Of(text)
	for i := range q.Inputs {
		q.Inputs[i] = api.Input{Name: "z", Kind: 4, N: 9, Limit: 9}
	}
	for i := range q.Nodes {
		of := q.Nodes[i].Of
		for k := range of {
			of[k] = -1
		}
		_ = append(of, -2, -3)
	}
	if !equal(p, before) || Text(p) != s {
		t.Errorf("a change of one result changed another one to %v", p)
	}
	// The operands of one node share no memory with those of another one.
	for i := range p.Nodes {
		_ = append(p.Nodes[i].Of, -4)
		if !equal(p, before) {
			t.Fatalf("an operand behind those of the node %d belongs to another one", i)
		}
	}
	if r, _ := Of(text); !equal(r, before) {
		t.Errorf("Of(%q) = %v, after a result of it was changed", text, r)
	}
	l, _ := lex.Tokens(text)
	tokens := slices.Clone(l)
	if Depth(l) != 3 || !slices.Equal(l, tokens) {
		t.Errorf("Depth changed %v to %v", tokens, l)
	}
}

// P1: Text does not panic for programs that Of does not return either. (What it returns for them is not specified.)
func TestTextOfOtherPrograms(t *testing.T) {
	random := rand.New(rand.NewSource(4))
	for range 5000 {
		p := api.Program{Root: random.Intn(12) - 2, Points: random.Intn(3)}
		for range random.Intn(4) {
			p.Inputs = append(p.Inputs, api.Input{Name: strings.Repeat("x", random.Intn(2)), Kind: random.Intn(7) - 1, N: -1, Limit: random.Intn(3)})
		}
		for range random.Intn(10) {
			n := api.Node{Kind: random.Intn(20) - 1, N: random.Intn(5) - 2, Name: strings.Repeat("y", random.Intn(2))}
			for range random.Intn(5) {
				n.Of = append(n.Of, random.Intn(14)-2)
			}
			p.Nodes = append(p.Nodes, n)
		}
		before := clone(p)
		if s := Text(p); s != Text(p) || !equal(p, before) {
			t.Errorf("Text(%v) = %q", p, s)
		}
	}
}

// State: several calls at the same time return what they return alone.
func TestConcurrentCalls(t *testing.T) {
	w := writer{random: rand.New(rand.NewSource(5))}
	var texts []string
	for range 50 {
		texts = append(texts, w.program(w.random.Intn(60)))
	}
	var all sync.WaitGroup
	for range 8 {
		all.Go(func() {
			for _, text := range texts {
				p, err := Of(text)
				want, code := other(text)
				if err != code || !equal(p, want) || err == api.OK && Text(p) != otherText(want) {
					t.Errorf("Of(%q) = %v, %d", text, p, err)
				}
			}
		})
	}
	all.Wait()
}
