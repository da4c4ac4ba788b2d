package token_test

import (
	"math/big"
	"math/rand"
	"regexp"
	"slices"
	"strconv"
	"strings"
	"testing"

	"supergraph/api"
	"supergraph/token"
)

func sign(s string, at int) token.Token { return token.Token{Kind: token.Sign, Text: s, At: at} }

func name(s string, at int) token.Token { return token.Token{Kind: token.Name, Text: s, At: at} }

func integer(s string, at int) token.Token { return token.Token{Kind: token.Int, Text: s, At: at} }

func literal(s string, at int) token.Token { return token.Token{Kind: token.Text, Text: s, At: at} }

func end(at int) token.Token { return token.Token{Kind: token.End, At: at} }

// brief keeps the messages of tests with long documents readable.
func brief(s string) string {
	if len(s) > 200 {
		return s[:100] + "..." + s[len(s)-100:]
	}
	return s
}

func checkScan(t *testing.T, s string, want ...token.Token) {
	t.Helper()
	if got, at, err := token.Scan(s); !slices.Equal(got, want) || at != 0 || err != api.OK {
		t.Errorf("Scan(%q) is %v, %d, %d", brief(s), got[:min(len(got), 20)], at, err)
	}
}

func checkWrong(t *testing.T, s string, index int, code api.Errno) {
	t.Helper()
	if got, at, err := token.Scan(s); len(got) != 0 || at != index || err != code {
		t.Errorf("Scan(%q) is %v, %d, %d, not %d, %d", brief(s), got[:min(len(got), 20)], at, err, index, code)
	}
}

// P4.1: examples

func TestScanExamples(t *testing.T) {
	checkScan(t, "{a, b:-1}", sign("{", 0), name("a", 1), name("b", 4), sign(":", 5), integer("-1", 6), sign("}", 8), end(9))
	checkScan(t, "", end(0))
	checkScan(t, "a", name("a", 0), end(1))
	checkScan(t, "query($x:[Int!]=[1 2]){...on A@b{c(d:$x)}}",
		name("query", 0), sign("(", 5), sign("$", 6), name("x", 7), sign(":", 8), sign("[", 9), name("Int", 10), sign("!", 13),
		sign("]", 14), sign("=", 15), sign("[", 16), integer("1", 17), integer("2", 19), sign("]", 20), sign(")", 21),
		sign("{", 22), sign("...", 23), name("on", 26), name("A", 29), sign("@", 30), name("b", 31), sign("{", 32), name("c", 33),
		sign("(", 34), name("d", 35), sign(":", 36), sign("$", 37), name("x", 38), sign(")", 39), sign("}", 40), sign("}", 41), end(42))
	checkScan(t, "type A implements B&C{d:E}\nunion F=G|H",
		name("type", 0), name("A", 5), name("implements", 7), name("B", 18), sign("&", 19), name("C", 20), sign("{", 21), name("d", 22),
		sign(":", 23), name("E", 24), sign("}", 25), name("union", 27), name("F", 33), sign("=", 34), name("G", 35), sign("|", 36),
		name("H", 37), end(38))
	checkWrong(t, "1a", 0, api.ErrForm)
	checkWrong(t, "a ..", 2, api.ErrForm)
}

func TestScanSeparators(t *testing.T) {
	for _, s := range []string{" ", "\t", "\n", "\r", ",", "\r\n", " \t\n\r,", ",,", "#", "# a \"", "#\n", "#\r", "#a#b\n", "##", "#{\r#}\n ", "#é\xff\x00\n"} {
		checkScan(t, s, end(len(s)))
		checkScan(t, "a"+s, name("a", 0), end(1+len(s)))
	}
	for _, s := range []string{" ", "\t", "\n", "\r", ",", "#\n", "#\r", "# a \"\n", "#é\xff\x00\r", "#\\\n", "#\xe2\n", "#\xf0\x9f\r", "#,\n#,\r"} {
		checkScan(t, s+"a"+s+"-1"+s, name("a", len(s)), integer("-1", len(s)*2+1), end(len(s)*3+3))
	}
	// The byte that ends a comment does not belong to it, nor does anything after it.
	checkScan(t, "a#b\rc#d\ne#f", name("a", 0), name("c", 4), name("e", 8), end(11))
	checkScan(t, "#\r#\n#\n\ra", name("a", 7), end(8))
	checkWrong(t, "#a\n;", 3, api.ErrForm)
	checkWrong(t, "#a\r;#b", 3, api.ErrForm)
	// These bytes separate lines or words elsewhere.
	for _, s := range []string{"\v", "\f", "\x00", "\x1c", "\x7f", "\u0085", "\u00a0", "\u2028", "\u2029", "\u3000", "\ufeff", ";"} {
		checkWrong(t, s, 0, api.ErrForm)
		checkWrong(t, "a"+s+"b", 1, api.ErrForm)
		checkScan(t, "#"+s+";\na", name("a", len(s)+3), end(len(s)+4))
	}
}

// Every byte is in every place: alone, and before, between and after other tokens.
func TestScanEveryByte(t *testing.T) {
	const separators, signs, digits = " \t\n\r,", "!$&():=@[]{|}", "0123456789"
	const letters = "ABCDEFGHIJKLMNOPQRSTUVWXYZabcdefghijklmnopqrstuvwxyz_"
	for b := range 256 {
		s := string([]byte{byte(b)})
		switch {
		case strings.Contains(separators, s):
			checkScan(t, s, end(1))
			checkScan(t, "a"+s+"1", name("a", 0), integer("1", 2), end(3))
		case strings.Contains(signs, s):
			checkScan(t, s, sign(s, 0), end(1))
			checkScan(t, s+s, sign(s, 0), sign(s, 1), end(2))
			checkScan(t, "a"+s+"1", name("a", 0), sign(s, 1), integer("1", 2), end(3))
			checkScan(t, "1"+s+"...", integer("1", 0), sign(s, 1), sign("...", 2), end(5))
		case strings.Contains(letters, s):
			checkScan(t, s, name(s, 0), end(1))
			checkScan(t, "a"+s+"1:", name("a"+s+"1", 0), sign(":", 3), end(4))
			checkWrong(t, ":1"+s, 1, api.ErrForm)
			checkWrong(t, ":-"+s, 1, api.ErrForm)
		case strings.Contains(digits, s):
			checkScan(t, s, integer(s, 0), end(1))
			checkScan(t, "a"+s+"1:", name("a"+s+"1", 0), sign(":", 3), end(4))
			checkScan(t, ":1"+s, sign(":", 0), integer("1"+s, 1), end(3))
		case s == "#":
			checkScan(t, s, end(1))
			checkScan(t, "a"+s+"1", name("a", 0), end(3))
		case s == "-":
			checkWrong(t, s, 0, api.ErrForm)
			checkScan(t, "a"+s+"1", name("a", 0), integer("-1", 1), end(3))
		default:
			checkWrong(t, s, 0, api.ErrForm)
			checkWrong(t, "a"+s+"1", 1, api.ErrForm)
			checkWrong(t, "1"+s, 1, api.ErrForm)
			checkWrong(t, ":"+s+":", 1, api.ErrForm)
		}
	}
}

func TestScanPeriods(t *testing.T) {
	checkScan(t, "...", sign("...", 0), end(3))
	checkScan(t, "......", sign("...", 0), sign("...", 3), end(6))
	checkScan(t, "a...on", name("a", 0), sign("...", 1), name("on", 4), end(6))
	checkScan(t, "1...-1", integer("1", 0), sign("...", 1), integer("-1", 4), end(6))
	for _, s := range []string{".", "..", ". ..", ".. .", ".,..", "..a", ".a.", "..\n.", "..#", "..é", ". "} {
		checkWrong(t, s, 0, api.ErrForm)
		checkWrong(t, " a"+s, 2, api.ErrForm)
		checkWrong(t, "..."+s, 3, api.ErrForm)
	}
	checkWrong(t, "1.5", 1, api.ErrForm)
	checkWrong(t, "....", 3, api.ErrForm)
	checkWrong(t, ".....", 3, api.ErrForm)
}

func TestScanNames(t *testing.T) {
	for _, s := range []string{"a", "_", "Z", "__typename", "a1", "_0", "true", "null", "on", "x_Y_9", strings.Repeat("_9aZ", 16)} {
		checkScan(t, s, name(s, 0), end(len(s)))
		checkScan(t, "{"+s+"-1", sign("{", 0), name(s, 1), integer("-1", len(s)+1), end(len(s)+3))
	}
	for length := 1; length < 200; length++ {
		for _, s := range []string{strings.Repeat("x", length), "_" + strings.Repeat("0", length-1)} {
			if length <= 64 {
				checkScan(t, ","+s+"!", name(s, 1), sign("!", length+1), end(length+2))
			} else {
				checkWrong(t, ","+s+"!", 1, api.ErrForm)
			}
		}
	}
	checkWrong(t, "a aé", 3, api.ErrForm)
	checkWrong(t, "\u0430", 0, api.ErrForm)
	checkWrong(t, "a\u0661", 1, api.ErrForm)
}

func TestScanIntegers(t *testing.T) {
	for _, s := range []string{"0", "1", "-1", "10", "-12", "9223372036854775807", "-9223372036854775808"} {
		checkScan(t, "["+s+"]", sign("[", 0), integer(s, 1), sign("]", len(s)+1), end(len(s)+2))
		checkScan(t, s, integer(s, 0), end(len(s)))
	}
	checkScan(t, "1-2-3", integer("1", 0), integer("-2", 1), integer("-3", 3), end(5))
	for _, s := range []string{
		"-", "-0", "00", "01", "-01", "1a", "1_", "1_000", "-a", "-_", "0x10", "1e3", "0a", "-1a", "9223372036854775808a", "-9223372036854775809_",
		"012345678901234567890", "1" + strings.Repeat("x", 100), "--1", "--", "-.", "- 1", "-\"\"", "-#\n1", "-é",
	} {
		checkWrong(t, s, 0, api.ErrForm)
		checkWrong(t, "a:"+s, 2, api.ErrForm)
	}
	for _, s := range []string{"9223372036854775808", "-9223372036854775809", "18446744073709551616", "1" + strings.Repeat("0", 1000)} {
		checkWrong(t, s, 0, api.ErrSize)
		checkWrong(t, "[0 "+s+"]", 3, api.ErrSize)
	}
}

func TestScanLiterals(t *testing.T) {
	for s, want := range map[string]string{
		`""`: "", `"a"`: "a", `"\""`: `"`, `"\\"`: `\`, `"\\\""`: `\"`, `"\\\\"`: `\\`, `"a\"b\\\"c"`: `a"b\"c`,
		`" #, {}...-1 "`: " #, {}...-1 ", `"#"`: "#", `"\/\b\f\n\r\t"`: "/\b\f\n\r\t", `"\u0041\u00e9\u00Ff"`: "A\xe9\xff",
		`"\\u0041"`: `\u0041`, `"\\n"`: `\n`, `"'"`: "'", `"~"`: "~",
	} {
		checkScan(t, s, literal(want, 0), end(len(s)))
		checkScan(t, "a"+s+"b", name("a", 0), literal(want, 1), name("b", len(s)+1), end(len(s)+2))
		checkScan(t, s+s+"-1", literal(want, 0), literal(want, len(s)), integer("-1", len(s)*2), end(len(s)*2+2))
	}
	for _, s := range []string{
		`"`, `"a`, `"\"`, `"\\\"`, `"\`, `"a#`, "\"#\n", `"\x"`, `"\u"`, `"\u004"`, `"\u0100"`, `"\u00g0"`, `"\u\"00"`, "\"\n\"", "\"\r\"", "\"\t\"",
		"\"\x00\"", "\"\x7f\"", `"é"`, "\"\xff\"", "\"\\\n\"", "\"\\\xff\"", `"\é"`, `"\é`, "\"\\\xc3\"", "\"\\\xf0\"", "\"\xe2\"",
	} {
		checkWrong(t, s, 0, api.ErrForm)
		checkWrong(t, "a "+s, 2, api.ErrForm)
		checkWrong(t, `"\""`+s, 4, api.ErrForm)
	}
	checkWrong(t, `"""`, 2, api.ErrForm)
	checkScan(t, `"""a"""`, literal("", 0), literal("a", 2), literal("", 5), end(7))
	checkScan(t, `""""`, literal("", 0), literal("", 2), end(4))
}

// What follows the first wrong token does not matter.
func TestScanFirstWrongToken(t *testing.T) {
	wrong := map[string]api.Errno{"01": api.ErrForm, "9223372036854775808": api.ErrSize, `"\x"`: api.ErrForm, "..": api.ErrForm, ";": api.ErrForm, strings.Repeat("x", 65): api.ErrForm}
	for a, code := range wrong {
		for b := range wrong {
			checkWrong(t, a+" "+b, 0, code)
			checkWrong(t, "{ \"\\\"\" "+a+" } "+b+"\"", 7, code)
			checkWrong(t, "#"+b+"\n"+a, len(b)+2, code)
			checkWrong(t, "..."+a+"\""+b, 3, code)
		}
	}
}

// P4.1: limits

func TestScanLimitOfText(t *testing.T) {
	const most = 65536
	for _, c := range []string{" ", ",", "#", "\n"} {
		checkScan(t, strings.Repeat(c, most), end(most))
	}
	for _, length := range []int{most - 1, most} {
		checkScan(t, strings.Repeat(" ", length-1)+"a", name("a", length-1), end(length))
		checkScan(t, `"`+strings.Repeat("x", length-2)+`"`, literal(strings.Repeat("x", length-2), 0), end(length))
		checkWrong(t, `"`+strings.Repeat("x", length-1), 0, api.ErrForm)
		checkWrong(t, strings.Repeat(" ", length-1)+"-", length-1, api.ErrForm)
		checkWrong(t, strings.Repeat("1", length), 0, api.ErrSize)
		checkWrong(t, strings.Repeat("x", length), 0, api.ErrForm)
	}
	for _, s := range []string{" ", "#", "{", ";", "\x00", `"`, "x", "1", "é"} {
		checkWrong(t, strings.Repeat(s, most+1), most, api.ErrSize)
		checkWrong(t, strings.Repeat(s, 1<<20), most, api.ErrSize)
		checkWrong(t, s+strings.Repeat(" ", most-len(s)+1), most, api.ErrSize)
	}
}

func TestScanManyTokens(t *testing.T) {
	const most = 65536
	var want []token.Token
	for at := range most {
		want = append(want, sign("{", at))
	}
	checkScan(t, strings.Repeat("{", most), append(want, end(most))...)
	want = nil
	for at := 0; at < most; at += 8 {
		want = append(want, name("a", at), integer("-1", at+2), literal("", at+4), sign("$", at+7))
	}
	checkScan(t, strings.Repeat("a -1\"\",$", most/8), append(want, end(most))...)
}

// P4.1: all short documents, and random ones, are compared with patterns of the chapter's rules.

var (
	separatorsOf = regexp.MustCompile(`^([ \t\n\r,]|#[^\n\r]*)*`)
	signOf       = regexp.MustCompile(`^([!$&():=@\[\]{|}]|\.\.\.)`)
	nameOf       = regexp.MustCompile(`^[A-Za-z_][0-9A-Za-z_]*`)
	integerOf    = regexp.MustCompile(`^[0-9-][0-9A-Za-z_]*`)
	literalOf    = regexp.MustCompile(`^"(?s:[^"\\]|\\.)*"`)
	rightInteger = regexp.MustCompile(`^(0|-?[1-9][0-9]*)$`)
	rightLiteral = regexp.MustCompile(`^"([ !#-\[\]-~]|\\["\\/bfnrt]|\\u00[0-9a-fA-F]{2})*"$`)
	// Go's own literals have the same escapes but \/, and \x for the numbers of bytes.
	escapesOfGo = strings.NewReplacer(`\\`, `\\`, `\/`, `/`, `\u00`, `\x`)
)

// expectedToken returns the token at the beginning of s, its bytes, and its error.
func expectedToken(s string) (token.Token, string, api.Errno) {
	if bytes := signOf.FindString(s); bytes != "" {
		return sign(bytes, 0), bytes, api.OK
	}
	if bytes := nameOf.FindString(s); bytes != "" && len(bytes) <= 64 {
		return name(bytes, 0), bytes, api.OK
	}
	if bytes := integerOf.FindString(s); rightInteger.MatchString(bytes) {
		if n, _ := new(big.Int).SetString(bytes, 10); !n.IsInt64() {
			return token.Token{}, "", api.ErrSize
		}
		return integer(bytes, 0), bytes, api.OK
	}
	if bytes := literalOf.FindString(s); rightLiteral.MatchString(bytes) {
		content, _ := strconv.Unquote(escapesOfGo.Replace(bytes))
		return literal(content, 0), bytes, api.OK
	}
	return token.Token{}, "", api.ErrForm
}

// expectedScan also returns the bytes of each token in the document.
func expectedScan(s string) (tokens []token.Token, bytes []string, at int, code api.Errno) {
	for {
		at += len(separatorsOf.FindString(s[at:]))
		if at == len(s) {
			return append(tokens, end(at)), append(bytes, ""), 0, api.OK
		}
		t, b, code := expectedToken(s[at:])
		if code != api.OK {
			return nil, nil, at, code
		}
		t.At = at
		tokens, bytes = append(tokens, t), append(bytes, b)
		at += len(b)
	}
}

// checkExpected says nothing more after the first failure of a test, which has very many documents.
func checkExpected(t *testing.T, s string) {
	t.Helper()
	if t.Failed() {
		return
	}
	tokens, _, at, code := expectedScan(s)
	if code == api.OK {
		checkScan(t, s, tokens...)
	} else {
		checkWrong(t, s, at, code)
	}
}

// eachString calls visit for every string of at most most of the pieces.
func eachString(pieces []string, most int, visit func(s string)) {
	visit("")
	if most == 0 {
		return
	}
	for _, first := range pieces {
		eachString(pieces, most-1, func(rest string) { visit(first + rest) })
	}
}

func TestScanShortDocuments(t *testing.T) {
	check := func(s string) { checkExpected(t, s) }
	eachString(strings.Split("a1-.\"\\# \n{", ""), 5, check)
	eachString(strings.Split("\"\\u0nA#\n", ""), 6, check)
	eachString([]string{"é", "\xff", "\xe2", "\x80", "\"", "\\", "#", "\r", "a"}, 5, check)
	eachString([]string{"_", "0", "9", "-", "9223372036854775807", "8", "x", ","}, 5, check)
}

// somePieces are the parts of random documents: most of them are right wherever they are.
func somePieces() []string {
	pieces := []string{"#", "\"", "\\", ".", "-", ";", "é", "\xff", "01", "1a", "9223372036854775808", strings.Repeat("x", 65)}
	for range 10 {
		pieces = append(pieces, " ", ",", "\t", "\n", "\r", "#x \"y\n", "# é\xff\r", "...", "a", "_b1", "query", "0", "-1", "9223372036854775807",
			`""`, `"a b"`, `"\""`, `"\\"`, `"#\n\u00e9"`, strings.Repeat("y", 63), "!", "$", "&", "(", ")", ":", "=", "@", "[", "]", "{", "|", "}")
	}
	return pieces
}

// eachRandom calls visit for many random documents.
func eachRandom(visit func(s string)) {
	r := rand.New(rand.NewSource(4))
	pieces := somePieces()
	for i := range 30000 {
		s := ""
		for range r.Intn(3 + i%60) {
			s += pieces[r.Intn(len(pieces))]
		}
		visit(s)
	}
}

func TestScanRandomDocuments(t *testing.T) {
	right := 0
	eachRandom(func(s string) {
		checkExpected(t, s)
		if _, _, _, code := expectedScan(s); code == api.OK && len(s) > 20 {
			right++
		}
	})
	if right < 1000 {
		t.Error("too few right documents:", right)
	}
}

func TestScanEveryByteInEveryPlace(t *testing.T) {
	whole := "{a(b:-12,c:\"\\\"d\\u00e9\")...on E@f #g\n[0]}"
	for i := range len(whole) + 1 {
		for b := range 256 {
			s := whole[:i] + string([]byte{byte(b)})
			checkExpected(t, s)
			checkExpected(t, s+whole[i:])
			if i < len(whole) {
				checkExpected(t, s+whole[i+1:])
			}
		}
	}
}

func TestScanRandomBytes(t *testing.T) {
	r := rand.New(rand.NewSource(5))
	for range 20000 {
		b := make([]byte, r.Intn(12))
		r.Read(b)
		checkExpected(t, string(b))
		checkExpected(t, "#"+string(b))
		checkExpected(t, "\""+string(b)+"\"")
	}
}

func TestScanResultsShareNoSlices(t *testing.T) {
	first, _, _ := token.Scan("{a}")
	second, _, _ := token.Scan("{a}")
	clear(first)
	if !slices.Equal(second, []token.Token{sign("{", 0), name("a", 1), sign("}", 2), end(3)}) {
		t.Error(second)
	}
	clear(second)
	checkScan(t, "{a}", sign("{", 0), name("a", 1), sign("}", 2), end(3))
}
