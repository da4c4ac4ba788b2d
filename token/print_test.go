package token_test

import (
	"math/rand"
	"slices"
	"strconv"
	"strings"
	"testing"

	"supergraph/api"
	"supergraph/token"
)

func checkPrint(t *testing.T, want string, l ...token.Token) {
	t.Helper()
	given := slices.Clone(l)
	if got := token.Print(l); got != want {
		t.Errorf("Print(%v) is %q, not %q", l, brief(got), brief(want))
	}
	if !slices.Equal(l, given) {
		t.Errorf("Print changed %v to %v", given, l)
	}
}

// P4.2

func TestPrintExamples(t *testing.T) {
	l, _, _ := token.Scan("{a, b:-1}")
	checkPrint(t, "{ a b : -1 }", l...)
	checkPrint(t, "")
	checkPrint(t, "", end(0))
	checkPrint(t, "", end(0), end(5))
	checkPrint(t, "a", name("a", 0))
	checkPrint(t, "... on", sign("...", 0), name("on", 0))
	checkPrint(t, "- -", integer("-", 0), integer("-", 0))
}

func TestPrintLiterals(t *testing.T) {
	for b := range 256 {
		s := string([]byte{byte(b)})
		want := s
		switch {
		case b == '"' || b == '\\':
			want = `\` + s
		case b == '\n':
			want = `\n`
		case b == '\r':
			want = `\r`
		case b == '\t':
			want = `\t`
		case b < 32 || b > 126:
			want = `\u00` + strconv.FormatInt(int64(b>>4), 16) + strconv.FormatInt(int64(b&15), 16)
		}
		checkPrint(t, `"`+want+`"`, literal(s, 0))
		checkPrint(t, `{ "a`+want+`b" }`, sign("{", 0), literal("a"+s+"b", 1), sign("}", 2))
	}
	checkPrint(t, `"" "" ""`, literal("", 0), literal("", 2), literal("", 4))
	checkPrint(t, `"\"a\"" "\u00c3\u00a9"`, literal(`"a"`, 0), literal("é", 0))
}

func TestPrintLeavesOutEnds(t *testing.T) {
	checkPrint(t, "a b", end(0), name("a", 0), end(1), end(1), name("b", 2), end(3))
	checkPrint(t, `"a" b`, token.Token{Kind: token.End, Text: "x"}, literal("a", 0), token.Token{Kind: token.End, Text: "y", At: 7}, name("b", 0))
	checkPrint(t, "a", token.Token{Kind: token.End, Text: "x"}, name("a", 0))
	checkPrint(t, "a", name("a", 0), token.Token{Kind: token.End, Text: "x"})
}

func TestPrintOfAnyKind(t *testing.T) {
	for _, kind := range []int{-1, 0, token.Sign, token.Name, token.Int, 6, 7, 9, 1 << 40, -1 << 63} {
		for _, s := range []string{"", "a", " ", "\"", "a b", "\n", "\xff", "é", "#", "{{"} {
			checkPrint(t, s, token.Token{Kind: kind, Text: s})
			checkPrint(t, "a "+s+" b", name("a", 3), token.Token{Kind: kind, Text: s, At: 2}, name("b", 1))
			checkPrint(t, s+" "+s, token.Token{Kind: kind, Text: s}, token.Token{Kind: kind, Text: s})
		}
	}
}

func TestPrintIgnoresPlaces(t *testing.T) {
	for _, at := range []int{-1 << 63, -1, 0, 1, 100, 1<<63 - 1} {
		checkPrint(t, "a { -1 \"b\"", name("a", at), sign("{", at), integer("-1", at), literal("b", at), end(at))
	}
}

// An independent way to the same text: it is built from its end, each token with the separator before it.
func expectedPrint(l []token.Token) string {
	s, separator := "", ""
	for _, x := range slices.Backward(l) {
		if x.Kind == token.End {
			continue
		}
		part := x.Text
		if x.Kind == token.Text {
			part = expectedLiteral(x.Text)
		}
		s, separator = part+separator+s, " "
	}
	return s
}

func expectedLiteral(s string) string {
	escaped := ""
	for _, b := range []byte(s) {
		switch q := strconv.QuoteToASCII(string(rune(b))); {
		case b > 126:
			escaped += `\u00` + strconv.FormatInt(int64(b), 16)
		case strings.HasPrefix(q, `"\`) && !strings.ContainsRune("\"\\\n\r\t", rune(b)):
			escaped += `\u00` + strconv.FormatInt(int64(b)+256, 16)[1:]
		default:
			escaped += q[1 : len(q)-1]
		}
	}
	return `"` + escaped + `"`
}

func TestPrintRandomTokens(t *testing.T) {
	r := rand.New(rand.NewSource(6))
	for range 20000 {
		l := make([]token.Token, r.Intn(8))
		for i := range l {
			b := make([]byte, r.Intn(4))
			r.Read(b)
			l[i] = token.Token{Kind: r.Intn(8), Text: string(b), At: r.Intn(100)}
		}
		checkPrint(t, expectedPrint(l), l...)
	}
}

func TestPrintManyTokens(t *testing.T) {
	l := slices.Repeat([]token.Token{sign("{", 0), end(1)}, 1<<17)
	checkPrint(t, strings.TrimSuffix(strings.Repeat("{ ", 1<<17), " "), l...)
}

// P4.3

// withoutPlaces returns the tokens with their kinds and texts only.
func withoutPlaces(l []token.Token) []token.Token {
	l = slices.Clone(l)
	for i := range l {
		l[i].At = 0
	}
	return l
}

func checkScannedAgain(t *testing.T, s string) {
	t.Helper()
	if t.Failed() {
		return
	}
	first, _, code := token.Scan(s)
	if code != api.OK {
		return
	}
	printed := token.Print(first)
	again, at, code := token.Scan(printed)
	if !slices.Equal(withoutPlaces(again), withoutPlaces(first)) || at != 0 || code != api.OK {
		t.Errorf("Scan(%q), which is printed from %q, is %v, %d, %d", brief(printed), brief(s), again, at, code)
	}
	if second := token.Print(again); second != printed {
		t.Errorf("%q is printed as %q", brief(printed), brief(second))
	}
}

func TestScanWhatIsPrinted(t *testing.T) {
	check := func(s string) { checkScannedAgain(t, s) }
	eachString(strings.Split("a1-.\"\\# \n{", ""), 5, check)
	eachString([]string{`"\u00`, "0", "e", "F", `"`, `\n`, `\\`, `\"`, `\/`}, 5, check)
	eachRandom(check)
	for b := range 256 {
		check(`a"` + `\u00` + strconv.FormatInt(int64(b)+256, 16)[1:] + `"-1`)
	}
}

func TestScanWhatIsPrintedAtTheLimit(t *testing.T) {
	// These signs and the spaces after them have 65534 bytes.
	signs := strings.Repeat("{", 32767)
	for s, length := range map[string]int{
		signs + "a": 65535, signs + "ab": 65536, signs + "abc": 65537, signs + `""`: 65536, signs + `"a"`: 65537,
		signs + "{{": 65537, strings.Repeat("{", 65536): 131071,
		`"` + strings.Repeat(`\/`, 32767) + `"`: 32769,
	} {
		l, _, code := token.Scan(s)
		printed := token.Print(l)
		if code != api.OK || len(printed) != length {
			t.Errorf("%q is printed with %d bytes, %d", brief(s), len(printed), code)
		}
		if length <= 65536 {
			checkScannedAgain(t, s)
		} else {
			checkWrong(t, printed, 65536, api.ErrSize)
		}
	}
}
