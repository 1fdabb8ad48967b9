package lex

import (
	"fmt"
	"math/rand"
	"regexp"
	"slices"
	"strconv"
	"strings"
	"sync"
	"testing"

	"bootchain/api"
)

// allSigns are all operators and delimiters.
var allSigns = []string{"==", "&&", "||", ">=", "{", "}", "(", ")", ";", "=", "+", "-", "*", "<", "!"}

const (
	letters = "abcdefghijklmnopqrstuvwxyzABCDEFGHIJKLMNOPQRSTUVWXYZ"
	digits  = "0123456789"
	whites  = "\t\n "
)

// foreign are bytes and characters outside of the grammar: some that other definitions count as white space, letters or digits, parts of characters, and encodings that are not valid.
var foreign = []string{
	"\x00", "\x01", "\x08", "\v", "\f", "\r", "\x1c", "\x1f", "\x7f", "\x80", "\x85", "\xa0", "\xaa", "\xc3", "\xff",
	"é", "ä", "ß", "ſ", "\u0085", "\u00a0", "\u00aa", "\u00b2", "\u0660", "\u1680", "\u2003", "\u2028", "\u202f", "\u212a", "\u3000",
	"\ufeff", "\ufffd", "ａ", "＿", "１", "；", "＝", "𝐚", "𝟏", "\U0001f600", "\U0010ffff",
	"\u0161", "\u0130", "\u0120", "\u0109", "\u013d", "\U00010061",
	"\xc0\x80", "\xc0\xa0", "\xc1\xa1", "\xe2\x80", "\xe2\x82\xac\x80", "\xed\xa0\x80", "\xf0\x9d\x90", "\xf4\x90\x80\x80",
}

// listed returns the tokens of a list such as "x@0 =@2 1@4": spellings with their offsets.
func listed(list string) []api.Token {
	var l []api.Token
	for word := range strings.FieldsSeq(list) {
		text, offset, _ := strings.Cut(word, "@")
		tok := api.Token{Kind: 3, Text: text}
		switch {
		case strings.Contains(letters, text[:1]):
			tok.Kind = 1
		case strings.Contains(digits, text[:1]):
			tok.Kind = 2
			tok.N, _ = strconv.Atoi(text)
		}
		tok.At, _ = strconv.Atoi(offset)
		l = append(l, tok)
	}
	return l
}

// lexed reports an error if a text does not have these tokens.
func lexed(t *testing.T, text string, want []api.Token) {
	t.Helper()
	if l, err := Tokens(text); !slices.Equal(l, want) || err != api.OK {
		t.Errorf("Tokens(%q) = %v, %d, want %v", text, l, err, want)
	}
}

// refused reports an error if a text is not refused with an error.
func refused(t *testing.T, text string, code api.Errno) {
	t.Helper()
	if l, err := Tokens(text); len(l) != 0 || err != code {
		t.Errorf("Tokens(%.40q), %d bytes, = %v, %d, want %d", text, len(text), l, err, code)
	}
}

// piece is what a text is made of: well-formed tokens and white space. (The values of numbers are checked later.)
const piece = `(?:[A-Za-z]\w{0,11}\b|(?:0|[1-9][0-9]{0,4})\b|==|&&|\|\||>=|[{}();=+*<!-]|[\t\n ])`

var (
	onePiece   = regexp.MustCompile(piece)
	onlyPieces = regexp.MustCompile(`^` + piece + `*$`)
)

// other returns the tokens of a text, found in another way than Tokens finds them.
func other(text string) ([]api.Token, api.Errno) {
	if len(text) > 1500 {
		return nil, 2
	}
	if !onlyPieces.MatchString(text) {
		return nil, 3
	}
	var l []api.Token
	for _, at := range onePiece.FindAllStringIndex(text, -1) {
		s := text[at[0]:at[1]]
		tok := api.Token{Kind: 3, Text: s, At: at[0]}
		switch {
		case strings.Contains(whites, s):
			continue
		case strings.Contains(letters, s[:1]):
			tok.Kind = 1
		case strings.Contains(digits, s[:1]):
			n, err := strconv.ParseUint(s, 10, 16)
			if err != nil {
				return nil, 3
			}
			tok.Kind, tok.N = 2, int(n)
		}
		l = append(l, tok)
	}
	return l, 0
}

// same reports an error if Tokens does not find what the other implementation finds.
func same(t *testing.T, text string) {
	t.Helper()
	l, err := Tokens(text)
	want, code := other(text)
	if !slices.Equal(l, want) || err != code {
		t.Errorf("Tokens(%q) = %v, %d, want %v, %d", text, l, err, want, code)
	}
}

// each calls f with all texts of n parts.
func each(n int, parts []string, f func(text string)) {
	if n == 0 {
		f("")
		return
	}
	each(n-1, parts, func(text string) {
		for _, p := range parts {
			f(text + p)
		}
	})
}

// randomText returns a text of parts that fit together more or less.
func randomText(r *rand.Rand) string {
	parts := slices.Concat(allSigns, []string{"a", "Z9_", "input", "abcdefghijkl", "0", "7", "10", "9999", "65535"})
	rare := slices.Concat(foreign, []string{"&", "|", ">", "_", "00", "07", "65536", "100000", "7x", "abcdefghijklm", "[", "/"})
	gaps := []string{"", " ", " ", "\n", "\t", " \n\t"}
	faults := r.Intn(2) == 0
	var b strings.Builder
	for range r.Intn(40) {
		if faults && r.Intn(20) == 0 {
			b.WriteString(rare[r.Intn(len(rare))])
		} else {
			b.WriteString(parts[r.Intn(len(parts))])
		}
		b.WriteString(gaps[r.Intn(len(gaps))])
	}
	return b.String()
}

// bare returns tokens without their offsets.
func bare(l []api.Token) []api.Token {
	l = slices.Clone(l)
	for i := range l {
		l[i].At = 0
	}
	return l
}

// P12.1: the examples of the chapter, with all fields.
func TestExamples(t *testing.T) {
	lexed(t, "if x==1{halt 7;}", []api.Token{
		{Kind: api.TName, Text: "if", N: 0, At: 0},
		{Kind: api.TName, Text: "x", N: 0, At: 3},
		{Kind: api.TSign, Text: "==", N: 0, At: 4},
		{Kind: api.TNum, Text: "1", N: 1, At: 6},
		{Kind: api.TSign, Text: "{", N: 0, At: 7},
		{Kind: api.TName, Text: "halt", N: 0, At: 8},
		{Kind: api.TNum, Text: "7", N: 7, At: 13},
		{Kind: api.TSign, Text: ";", N: 0, At: 14},
		{Kind: api.TSign, Text: "}", N: 0, At: 15},
	})
	refused(t, "a & b", api.ErrSyntax)
}

// P12.1: stages and policies, with and without white space between their tokens.
func TestSources(t *testing.T) {
	lexed(t, "input s strap 0;\n\tif s == 1 { halt 7; }\n\tnote s + 2;\n", listed(
		"input@0 s@6 strap@8 0@14 ;@15 if@18 s@21 ==@23 1@26 {@28 halt@30 7@35 ;@36 }@38 note@41 s@46 +@48 2@50 ;@51"))
	lexed(t, "let a_1=(b*c-65535)<d&&!e||f==0;", listed(
		"let@0 a_1@4 =@7 (@8 b@9 *@10 c@11 -@12 65535@13 )@18 <@19 d@20 &&@21 !@23 e@24 ||@25 f@27 ==@28 0@30 ;@31"))
	lexed(t, "version >= 2&&!point 0 1 took true", listed(
		"version@0 >=@8 2@11 &&@12 !@14 point@15 0@21 1@23 took@25 true@30"))
	lexed(t, "stage 0 is x0123abcd xffffffff x00000000 xdeadbeef", listed(
		"stage@0 0@6 is@8 x0123abcd@11 xffffffff@21 x00000000@31 xdeadbeef@41"))
	lexed(t, "}else{accept;}", listed("}@0 else@1 {@5 accept@6 ;@12 }@13"))
}

// P12.1: a text without tokens has none.
func TestNoTokens(t *testing.T) {
	for n := range 5 {
		each(n, strings.Split(whites, ""), func(text string) { lexed(t, text, nil) })
	}
}

// P12.1: the texts of one byte.
func TestBytes(t *testing.T) {
	for i := range 256 {
		text := string([]byte{byte(i)})
		switch {
		case strings.Contains(whites, text):
			lexed(t, text, nil)
		case strings.Contains(letters, text):
			lexed(t, text, []api.Token{{Kind: 1, Text: text}})
		case strings.Contains(digits, text):
			lexed(t, text, []api.Token{{Kind: 2, Text: text, N: i - '0'}})
		case strings.Contains("{}();=+-*<!", text):
			lexed(t, text, []api.Token{{Kind: 3, Text: text}})
		default:
			refused(t, text, api.ErrSyntax)
		}
	}
}

// P12.1: each byte in the middle of a name, of a number, of a sign, and between tokens.
func TestBytesWithin(t *testing.T) {
	for i := range 256 {
		c := string([]byte{byte(i)})
		for _, frame := range [][2]string{{"ab", "cd"}, {"12", "34"}, {"=", "="}, {"&", "&"}, {"a ", " b"}, {"{", "}"}, {"\n", ""}} {
			same(t, frame[0]+c+frame[1])
		}
	}
	lexed(t, "ab_cd", listed("ab_cd@0"))
	lexed(t, "ab\ncd", listed("ab@0 cd@3"))
	lexed(t, "12+34", listed("12@0 +@2 34@3"))
	lexed(t, "=\t=", listed("=@0 =@2"))
	refused(t, "&\t&", api.ErrSyntax)
}

// P12.1: all pairs of bytes.
func TestPairs(t *testing.T) {
	b := make([]byte, 2)
	for i := range 1 << 16 {
		b[0], b[1] = byte(i>>8), byte(i)
		same(t, string(b))
	}
}

// P12.1: all short texts of the bytes that matter to the grammar.
func TestShortTexts(t *testing.T) {
	many := strings.Split("aZ_0179 \t\n\r\v\f{}();=+-*<>!&|,.:", "")
	many = append(many, "\x00", "\x80", "\xa0", "\xff", "é")
	each(3, many, func(text string) { same(t, text) })
	each(5, strings.Split("a_01 =&>|", ""), func(text string) { same(t, text) })
}

// P12.1: many longer texts.
func TestRandomTexts(t *testing.T) {
	r := rand.New(rand.NewSource(1))
	good := 0
	for range 20000 {
		text := randomText(r)
		same(t, text)
		if _, err := Tokens(text); err == api.OK {
			good++
		}
	}
	if good < 2000 || good > 18000 {
		t.Errorf("%d texts are well-formed, which tests too little", good)
	}
}

// P12.1: no token starts at or continues with anything beyond the grammar, and none of it is white space.
func TestForeign(t *testing.T) {
	for _, c := range foreign {
		for _, text := range []string{
			c, c + c, c + "a", "a" + c, "a" + c + "b", "a " + c, c + " a", "a " + c + " b", "abc" + c + "def",
			"1" + c, c + "1", "1" + c + "2", "1 " + c + " 2", "0" + c, "65535" + c,
			"=" + c, c + "=", "=" + c + "=", "{" + c + "}", "a;" + c, " " + c, c + " ", "\n" + c + "\n", "abcdefghijkl" + c,
		} {
			refused(t, text, api.ErrSyntax)
		}
	}
}

// P12.1: a text of MaxText bytes is permitted and a longer one is not, whatever it consists of.
func TestLimit(t *testing.T) {
	for _, n := range []int{1499, 1500} {
		lexed(t, strings.Repeat(" ", n), nil)
		lexed(t, strings.Repeat("\n", n-1)+"x", []api.Token{{Kind: 1, Text: "x", At: n - 1}})
		lexed(t, "7"+strings.Repeat("\t", n-1), []api.Token{{Kind: 2, Text: "7", N: 7}})
		var l []api.Token
		for at := range n {
			l = append(l, api.Token{Kind: 3, Text: ";", At: at})
		}
		lexed(t, strings.Repeat(";", n), l)
		for _, s := range []string{"a", "7", "é", "&", "[", "\xff", "=x65536", "_"} {
			same(t, strings.Repeat(" ", n-len(s))+s)
			same(t, s+strings.Repeat(" ", n-len(s)))
		}
		refused(t, strings.Repeat("a", n), api.ErrSyntax)
		refused(t, strings.Repeat("1", n), api.ErrSyntax)
		refused(t, strings.Repeat("\xff", n), api.ErrSyntax)
		refused(t, strings.Repeat(" ", n-1)+"&", api.ErrSyntax)
		refused(t, "&"+strings.Repeat(" ", n-1), api.ErrSyntax)
	}
	for _, n := range []int{1501, 1502, 3000, 1 << 20} {
		for _, s := range []string{" ", "a", "1", ";", "&", "\xff", "_", "\x00"} {
			refused(t, strings.Repeat(s, n), api.ErrLimit)
			refused(t, strings.Repeat(" ", n-1)+s, api.ErrLimit)
			refused(t, s+strings.Repeat(" ", n-1), api.ErrLimit)
		}
	}
	// The limit counts bytes, not characters.
	refused(t, strings.Repeat("é", 750), api.ErrSyntax)
	refused(t, strings.Repeat("é", 751), api.ErrLimit)
	refused(t, strings.Repeat("é", 750)+" ", api.ErrLimit)
}

// P12.1: a long text with tokens of all kinds has all of them, up to its last byte.
func TestLongText(t *testing.T) {
	text := strings.Repeat("abc == 65535 ;\n", 100)
	l, err := Tokens(text)
	if len(text) != 1500 || len(l) != 400 || err != api.OK {
		t.Fatal(len(text), len(l), err)
	}
	for i, tok := range l {
		want := listed("abc@0 ==@4 65535@7 ;@13")[i%4]
		want.At += i / 4 * 15
		if tok != want {
			t.Errorf("token %d: %v, want %v", i, tok, want)
		}
	}
	refused(t, text[:1498]+"&\n", api.ErrSyntax)
	refused(t, text+" ", api.ErrLimit)
}

// P12.1: white space before, between and behind tokens, of each kind and length.
func TestWhite(t *testing.T) {
	for n := range 4 {
		each(n, strings.Split(whites, ""), func(gap string) {
			lexed(t, gap+"a"+gap, []api.Token{{Kind: 1, Text: "a", At: n}})
			lexed(t, gap+"10"+gap, []api.Token{{Kind: 2, Text: "10", N: 10, At: n}})
			lexed(t, gap+">="+gap, []api.Token{{Kind: 3, Text: ">=", At: n}})
			lexed(t, "a;"+gap+"1", []api.Token{{Kind: 1, Text: "a"}, {Kind: 3, Text: ";", At: 1}, {Kind: 2, Text: "1", N: 1, At: 2 + n}})
			if n == 0 {
				return
			}
			lexed(t, "ab"+gap+"c", []api.Token{{Kind: 1, Text: "ab"}, {Kind: 1, Text: "c", At: 2 + n}})
			lexed(t, "12"+gap+"3", []api.Token{{Kind: 2, Text: "12", N: 12}, {Kind: 2, Text: "3", N: 3, At: 2 + n}})
			lexed(t, "12"+gap+"a", []api.Token{{Kind: 2, Text: "12", N: 12}, {Kind: 1, Text: "a", At: 2 + n}})
			lexed(t, "0"+gap+"0", []api.Token{{Kind: 2, Text: "0"}, {Kind: 2, Text: "0", At: 1 + n}})
			lexed(t, "="+gap+"=", []api.Token{{Kind: 3, Text: "="}, {Kind: 3, Text: "=", At: 1 + n}})
			refused(t, "&"+gap+"&", api.ErrSyntax)
			refused(t, ">"+gap+"=", api.ErrSyntax)
			refused(t, "1"+gap+"_", api.ErrSyntax)
		})
	}
	for i := range 256 {
		c := string([]byte{byte(i)})
		if strings.Contains(whites, c) {
			continue
		}
		if l, err := Tokens("a" + c + "b"); err == api.OK && len(l) == 2 {
			t.Errorf("byte %d is white space", i)
		}
	}
}

// P12.1: each sign alone, before and behind other tokens, and before each other one.
func TestSigns(t *testing.T) {
	for _, s := range allSigns {
		lexed(t, s, []api.Token{{Kind: 3, Text: s}})
		lexed(t, "a"+s+"1", []api.Token{{Kind: 1, Text: "a"}, {Kind: 3, Text: s, At: 1}, {Kind: 2, Text: "1", N: 1, At: 1 + len(s)}})
		lexed(t, "1"+s+"a", []api.Token{{Kind: 2, Text: "1", N: 1}, {Kind: 3, Text: s, At: 1}, {Kind: 1, Text: "a", At: 1 + len(s)}})
		lexed(t, "a "+s, []api.Token{{Kind: 1, Text: "a"}, {Kind: 3, Text: s, At: 2}})
		for _, s2 := range allSigns {
			same(t, s+s2)
			lexed(t, s+" "+s2, []api.Token{{Kind: 3, Text: s}, {Kind: 3, Text: s2, At: len(s) + 1}})
			if s == "=" && s2[0] == '=' {
				continue
			}
			lexed(t, s+s2, []api.Token{{Kind: 3, Text: s}, {Kind: 3, Text: s2, At: len(s)}})
		}
	}
	for n := range 4 {
		each(n, allSigns, func(text string) { same(t, text) })
	}
}

// P12.1: the longest sign is taken, and a sign that is cut off or unknown is refused.
func TestLongestSign(t *testing.T) {
	lexed(t, "=", listed("=@0"))
	lexed(t, "==", listed("==@0"))
	lexed(t, "===", listed("==@0 =@2"))
	lexed(t, "====", listed("==@0 ==@2"))
	lexed(t, "=====", listed("==@0 ==@2 =@4"))
	lexed(t, ">=", listed(">=@0"))
	lexed(t, ">==", listed(">=@0 =@2"))
	lexed(t, ">===", listed(">=@0 ==@2"))
	lexed(t, ">=>=", listed(">=@0 >=@2"))
	lexed(t, "=>=", listed("=@0 >=@1"))
	lexed(t, "<=", listed("<@0 =@1"))
	lexed(t, "<==", listed("<@0 ==@1"))
	lexed(t, "!=", listed("!@0 =@1"))
	lexed(t, "!==", listed("!@0 ==@1"))
	lexed(t, "!", listed("!@0"))
	lexed(t, "!!", listed("!@0 !@1"))
	lexed(t, "&&", listed("&&@0"))
	lexed(t, "&&&&", listed("&&@0 &&@2"))
	lexed(t, "||", listed("||@0"))
	lexed(t, "||||", listed("||@0 ||@2"))
	lexed(t, "&&||", listed("&&@0 ||@2"))
	lexed(t, "++", listed("+@0 +@1"))
	lexed(t, "--", listed("-@0 -@1"))
	lexed(t, "-1", listed("-@0 1@1"))
	lexed(t, "<<", listed("<@0 <@1"))
	lexed(t, "**", listed("*@0 *@1"))
	for _, text := range []string{
		"&", "&&&", "&&&&&", "|", "|||", "|||||", ">", ">>", ">>=", "=>", "==>", "&|", "|&", "&=", "|=", "&&|", "||&", "& &", "| |", "> =",
		"a&", "a|", "a>", "a>1", "a&b", "a|b", "1>", ">=>", "/", "//", "%", "^", "~", "?", ":", ",", ".", "[", "]", "#", "$", "@", "'", "\"", "`", "\\",
	} {
		refused(t, text, api.ErrSyntax)
	}
}

// P12.1: names of every length up to MaxName, and none that is longer.
func TestNames(t *testing.T) {
	for n := 1; n <= 30; n++ {
		for _, text := range []string{
			strings.Repeat("a", n), strings.Repeat("Z", n), "a" + strings.Repeat("_", n-1), "Z" + strings.Repeat("9", n-1),
			"x" + strings.Repeat("0", n-1), ("aB0_zZ9_mM5_aB0_zZ9_mM5_aB0_zZ9_mM5_")[:n],
		} {
			if n > 12 {
				refused(t, text, api.ErrSyntax)
				refused(t, "a "+text, api.ErrSyntax)
				refused(t, text+" ", api.ErrSyntax)
				refused(t, text+";", api.ErrSyntax)
				continue
			}
			lexed(t, text, []api.Token{{Kind: 1, Text: text}})
			lexed(t, " "+text+";", []api.Token{{Kind: 1, Text: text, At: 1}, {Kind: 3, Text: ";", At: 1 + n}})
			lexed(t, "="+text+"=", []api.Token{{Kind: 3, Text: "="}, {Kind: 1, Text: text, At: 1}, {Kind: 3, Text: "=", At: 1 + n}})
			lexed(t, text+" "+text, []api.Token{{Kind: 1, Text: text}, {Kind: 1, Text: text, At: n + 1}})
		}
		refused(t, strings.Repeat("_", n), api.ErrSyntax)
		refused(t, "_"+strings.Repeat("a", n-1), api.ErrSyntax)
		refused(t, "a _"+strings.Repeat("1", n-1), api.ErrSyntax)
	}
	// The digits of a name are no number.
	lexed(t, "a0 b007 c65536 d_1", listed("a0@0 b007@3 c65536@8 d_1@15"))
	// Keywords are names like all others.
	lexed(t, "input IF else repeat", listed("input@0 IF@6 else@9 repeat@14"))
}

// P12.1: all numbers with up to 5 digits, and no greater one.
func TestNumbers(t *testing.T) {
	for n := range 200000 {
		text := strconv.Itoa(n)
		if n < 65536 {
			lexed(t, text, []api.Token{{Kind: 2, Text: text, N: n}})
		} else {
			refused(t, text, api.ErrSyntax)
		}
	}
	for _, text := range []string{"65536", "65537", "65540", "66000", "70000", "99999", "100000", "131072", "655360", "999999"} {
		refused(t, text, api.ErrSyntax)
	}
	// Values that are less than Wrap in 16, 32 or 64 bits.
	for _, text := range []string{"65537", "4294967297", "18446744073709551617", "18446744073709551616", "340282366920938463463374607431768211457"} {
		refused(t, text, api.ErrSyntax)
	}
	for n := 6; n < 1500; n++ {
		refused(t, strings.Repeat("1", n), api.ErrSyntax)
		refused(t, strings.Repeat("0", n), api.ErrSyntax)
		refused(t, strings.Repeat("0", n-1)+"1", api.ErrSyntax)
		refused(t, "1"+strings.Repeat("0", n-1), api.ErrSyntax)
	}
	lexed(t, "0 1 9 10 9999 10000 65534 65535", listed("0@0 1@2 9@4 10@6 9999@9 10000@14 65534@20 65535@26"))
	lexed(t, "1-1", listed("1@0 -@1 1@2"))
}

// P12.1: leading zeros are refused, except for the number 0 itself.
func TestLeadingZeros(t *testing.T) {
	lexed(t, "0", []api.Token{{Kind: 2, Text: "0"}})
	lexed(t, "0 0;0", listed("0@0 0@2 ;@3 0@4"))
	for _, text := range []string{"00", "01", "07", "09", "000", "001", "010", "0000", "0001", "00000", "00001", "01000", "000000", "000001", "065535", "00x", "0x1", "0_"} {
		refused(t, text, api.ErrSyntax)
		refused(t, "a "+text+" b", api.ErrSyntax)
	}
	for n := range 20000 {
		for width := len(strconv.Itoa(n)) + 1; width < 7; width++ {
			refused(t, fmt.Sprintf("%0*d", width, n), api.ErrSyntax)
		}
	}
}

// P12.1: what may follow a number directly, and what may not, also if the number is malformed anyway.
func TestBehindNumbers(t *testing.T) {
	good := []string{"0", "1", "9", "10", "65535"}
	bad := []string{"65536", "99999", "100000", "00", "01", "000000", "065535", strings.Repeat("9", 100)}
	for i := range 256 {
		c := string([]byte{byte(i)})
		for _, n := range good {
			same(t, n+c)
			same(t, n+c+"a")
			same(t, n+c+"1")
			if strings.Contains(letters+"_", c) {
				refused(t, n+c, api.ErrSyntax)
			}
		}
		for _, n := range bad {
			refused(t, n+c, api.ErrSyntax)
		}
	}
	for _, n := range slices.Concat(good, bad) {
		for _, c := range []string{"a", "Z", "_", "x1", "_1", "é", "\xff", "\u0660", "\u00aa"} {
			refused(t, n+c, api.ErrSyntax)
			refused(t, "a = "+n+c+";", api.ErrSyntax)
		}
	}
	for _, n := range good {
		value, _ := strconv.Atoi(n)
		for _, c := range append(strings.Split(whites, ""), allSigns...) {
			l, err := Tokens(n + c)
			if err != api.OK || l[0] != (api.Token{Kind: 2, Text: n, N: value}) || c == ";" && len(l) != 2 {
				t.Errorf("Tokens(%q) = %v, %d", n+c, l, err)
			}
		}
	}
}

// P12.1: with an error there are no tokens, wherever it is, and with several of them.
func TestErrors(t *testing.T) {
	wrong := []string{"&", "|", ">", "_", "[", "\xff", "é", "00", "65536", "100000", "7x", "7_", "abcdefghijklm", "\r"}
	for _, w := range wrong {
		for n := range 20 {
			refused(t, strings.Repeat("a ", n)+w, api.ErrSyntax)
			refused(t, w+strings.Repeat(" a", n), api.ErrSyntax)
			refused(t, strings.Repeat("a ", n)+w+strings.Repeat(" a", n), api.ErrSyntax)
		}
		for _, w2 := range wrong {
			same(t, w+w2) // two of them can be a sign
			refused(t, w+" "+w2, api.ErrSyntax)
			refused(t, w+";"+w2, api.ErrSyntax)
			refused(t, "x = "+w+"; y = "+w2+";", api.ErrSyntax)
			refused(t, w+strings.Repeat(" ", 1500)+w2, api.ErrLimit)
		}
	}
}

// P12.2: the spellings are separated by single spaces, and nothing else is added, changed or left out.
func TestShow(t *testing.T) {
	for _, x := range []struct {
		spellings []string
		want      string
	}{
		{nil, ""},
		{[]string{}, ""},
		{[]string{"a"}, "a"},
		{[]string{"a", "b"}, "a b"},
		{[]string{"halt", "(", "b", ";", "7", ")"}, "halt ( b ; 7 )"},
		{[]string{"=", "="}, "= ="},
		{[]string{""}, ""},
		{[]string{"", ""}, " "},
		{[]string{"", "", ""}, "  "},
		{[]string{"a", "", "b"}, "a  b"},
		{[]string{"", "a"}, " a"},
		{[]string{"a", ""}, "a "},
		{[]string{" "}, " "},
		{[]string{" ", " "}, "   "},
		{[]string{"a b", " c "}, "a b  c "},
		{[]string{"\n", "\t", "é", "\xff", "\x00"}, "\n \t é \xff \x00"},
		{[]string{"&", "007", "x"}, "& 007 x"},
	} {
		var l, l2 []api.Token
		for i, s := range x.spellings {
			l = append(l, api.Token{Text: s})
			l2 = append(l2, api.Token{Kind: i - 1, Text: s, N: 1000 * i, At: -i})
		}
		if s := Show(l); s != x.want {
			t.Errorf("Show(%q) = %q, want %q", x.spellings, s, x.want)
		}
		if s := Show(l2); s != x.want {
			t.Errorf("Show(%v) = %q, want %q", l2, s, x.want)
		}
	}
	for n := range 200 {
		l := slices.Repeat([]api.Token{{Kind: 2, Text: "12", N: 12, At: 7}}, n)
		if s := Show(l); s != strings.TrimSuffix(strings.Repeat("12 ", n), " ") {
			t.Errorf("Show of %d tokens = %q", n, s)
		}
	}
}

// P12.2: a token is shown as it is spelled, however long that and the list are.
func TestShowLong(t *testing.T) {
	long := strings.Repeat("abc&\xff", 10000)
	if s := Show([]api.Token{{Text: long}, {Text: long}}); s != long+" "+long {
		t.Error("long spellings:", len(s))
	}
	l := slices.Repeat([]api.Token{{Kind: 3, Text: "=="}}, 100000)
	if s := Show(l); s != strings.Repeat("== ", 99999)+"==" {
		t.Error("a long list:", len(s))
	}
}

// P12.3: tokens occur at their offsets, and only white space lies before, between and behind them.
func TestOffsets(t *testing.T) {
	r := rand.New(rand.NewSource(2))
	good := 0
	for good < 3000 {
		text := randomText(r)
		l, err := Tokens(text)
		if err != api.OK {
			continue
		}
		good++
		end := 0
		for i, tok := range append(l, api.Token{At: len(text)}) {
			if tok.At < end || strings.Trim(text[end:tok.At], whites) != "" || !strings.HasPrefix(text[tok.At:], tok.Text) {
				t.Fatalf("Tokens(%q): token %d is %v", text, i, tok)
			}
			if i < len(l) && tok.Text == "" {
				t.Fatalf("Tokens(%q): token %d is empty", text, i)
			}
			end = tok.At + len(tok.Text)
		}
	}
}

// P12.3: the tokens of a list that is shown are the same up to their offsets, which are those of the list with single spaces.
func TestTokensOfShow(t *testing.T) {
	check := func(text string) {
		l, err := Tokens(text)
		shown := Show(l)
		if err != api.OK || len(shown) > 1500 {
			return
		}
		again, err := Tokens(shown)
		if err != api.OK || !slices.Equal(bare(again), bare(l)) {
			t.Errorf("%q is shown as %q, whose tokens are %v, %d", text, shown, again, err)
		}
		at := 0
		for _, tok := range again {
			if tok.At != at {
				t.Errorf("%q is shown as %q, with the token %v", text, shown, tok)
			}
			at += len(tok.Text) + 1
		}
		if Show(again) != shown {
			t.Errorf("%q is shown as %q, and then as %q", text, shown, Show(again))
		}
	}
	r := rand.New(rand.NewSource(3))
	for range 10000 {
		check(randomText(r))
	}
	each(4, strings.Split("aZ09_ =&|!;", ""), check)
	for n := range 750 {
		check(strings.Repeat("(", n))
	}
}

// P12.3: the texts that are longer when they are shown are refused if that is too long.
func TestShowBeyondLimit(t *testing.T) {
	for _, x := range []struct {
		n   int
		err api.Errno
	}{{749, api.OK}, {750, api.OK}, {751, api.ErrLimit}, {1500, api.ErrLimit}} {
		l, err := Tokens(strings.Repeat("(", x.n))
		if len(l) != x.n || err != api.OK {
			t.Fatal(x.n, len(l), err)
		}
		again, err := Tokens(Show(l))
		if err != x.err || err == api.OK && !slices.Equal(bare(again), bare(l)) {
			t.Errorf("%d parentheses: %d tokens, %d", x.n, len(again), err)
		}
	}
}

// joined reports an error if the tokens of two texts, joined by white space, are not the tokens of both.
func joined(t *testing.T, a, gap, b string) {
	t.Helper()
	l, err := Tokens(a)
	l2, err2 := Tokens(b)
	if err != api.OK || err2 != api.OK {
		refused(t, a+gap+b, api.ErrSyntax)
		return
	}
	for _, tok := range l2 {
		tok.At += len(a + gap)
		l = append(l, tok)
	}
	lexed(t, a+gap+b, l)
}

// P12.3: the tokens of two texts that are joined by white space of each kind are those of both.
func TestJoined(t *testing.T) {
	texts := slices.Concat(allSigns, []string{
		"", " ", "\n", "a", "A_9", "abcdefghijkl", "0", "1", "65535", "a ", " a", "a\t", "if x==1{halt 7;}", "a=", "=b", "& &", "&", "|", ">", "7x", "_", "00", "é",
	})
	for _, c := range whites {
		for _, a := range texts {
			for _, b := range texts {
				joined(t, a, string(c), b)
			}
		}
	}
	r := rand.New(rand.NewSource(4))
	for range 3000 {
		gap := ""
		for range 1 + r.Intn(3) {
			gap += string(whites[r.Intn(len(whites))])
		}
		joined(t, randomText(r), gap, randomText(r))
	}
}

// P12.3: two texts are joined up to MaxText bytes.
func TestJoinedLimit(t *testing.T) {
	for _, c := range strings.Split(whites, "") {
		a, b := strings.Repeat("ab ", 250), strings.Repeat("12;", 249)
		joined(t, a, c, b)
		joined(t, a, c, b+"ab")
		refused(t, a+c+b+"abc", api.ErrLimit)
	}
}

// Rules: a list that was passed to Show is as before, also when a part of a longer one was passed.
func TestMemory(t *testing.T) {
	l := listed("x@0 =@1 1@2 ;@3 y@5 ==@6")
	before := slices.Clone(l)
	shown := Show(l[:4])
	b := []byte(shown)
	for i := range b {
		b[i] = '?'
	}
	again, _ := Tokens(shown)
	for i := range again {
		again[i] = api.Token{Kind: 9, Text: "?", N: 9, At: 9}
	}
	again = append(again, api.Token{Text: "more"})
	if !slices.Equal(l, before) {
		t.Errorf("the list has changed: %v", l)
	}
	l[0].Text = "other"
	if shown != "x = 1 ;" || Show(l[:1]) != "other" || Show(again[4:]) != "more" {
		t.Errorf("%q, %q, %q", shown, Show(l[:1]), Show(again[4:]))
	}
}

// Rules: calls do not depend on one another; what is done with the tokens of one does not change those of another.
func TestCalls(t *testing.T) {
	text := "if x==1{halt 7;}"
	l, _ := Tokens(text)
	want := slices.Clone(l)
	l2, _ := Tokens(text)
	for i := range l {
		l[i] = api.Token{}
	}
	l = append(l[:2], l[3:]...)
	refused(t, "a & b", api.ErrSyntax)
	refused(t, strings.Repeat("x", 1501), api.ErrLimit)
	if !slices.Equal(l2, want) || len(l) != 8 {
		t.Errorf("the tokens of another call have changed: %v", l2)
	}
	lexed(t, text, want)

	var group sync.WaitGroup
	for k := range 8 {
		group.Go(func() {
			r := rand.New(rand.NewSource(int64(k)))
			for range 200 {
				same(t, randomText(r))
				lexed(t, text, want)
				if s := Show(want); s != "if x == 1 { halt 7 ; }" {
					t.Errorf("Show = %q", s)
				}
			}
		})
	}
	group.Wait()
}
