package typeref_test

import (
	"strings"
	"testing"

	"supergraph/api"
	"supergraph/token"
	"supergraph/typeref"
)

// expectedText puts the text of a reference together from the inside to the outside.
func expectedText(name, wraps string) string {
	s := name
	for i := len(wraps) - 1; i >= 0; i-- {
		if wraps[i] == 'N' {
			s += "!"
		} else {
			s = "[" + s + "]"
		}
	}
	return s
}

func checkParse(t *testing.T, s string, want api.Ref, code api.Errno) {
	t.Helper()
	if got, err := typeref.Parse(s); !equal(got, want) || err != code {
		t.Errorf("Parse(%q) is %v, %d, not %v, %d", s, got, err, want, code)
	}
}

func checkError(t *testing.T, s string, code api.Errno) {
	t.Helper()
	checkParse(t, s, api.Ref{}, code)
}

// eachRight calls visit for all right references with few wrappers, and for many with up to 24.
func eachRight(visit func(name, wraps string)) {
	short := func(name string, most int) {
		eachWraps("NL", most, func(wraps string) {
			if !strings.Contains(wraps, "NN") {
				visit(name, wraps)
			}
		})
	}
	short("User", 12)
	for _, name := range []string{"a", "_", "__Type", "true", "null", "on", "type", "x1", strings.Repeat("x", 64)} {
		short(name, 4)
	}
	for n := range 25 {
		lists := strings.Repeat("L", n)
		visit("User", lists)
		for i := range n {
			visit("User", lists[:i]+"N"+lists[i+1:])
		}
		visit("User", strings.Repeat("LN", 12)[:n])
		visit("User", strings.Repeat("NL", 12)[:n])
	}
}

// P5.4

func TestPrint(t *testing.T) {
	eachRight(func(name, wraps string) {
		if got, want := typeref.Print(ref(name, wraps)), expectedText(name, wraps); got != want {
			t.Errorf("Print of %s %s is %s, not %s", name, wraps, got, want)
		}
	})
}

func TestParseOfPrint(t *testing.T) {
	eachRight(func(name, wraps string) {
		x := ref(name, wraps)
		checkParse(t, typeref.Print(x), x, api.OK)
		checkParse(t, expectedText(name, wraps), x, api.OK)
	})
}

func TestTextExamples(t *testing.T) {
	checkParse(t, "[ User ! ]", ref("User", "LN"), api.OK)
	checkParse(t, "User", ref("User", ""), api.OK)
	checkParse(t, "[[Int!]!]", ref("Int", "LNLN"), api.OK)
	checkParse(t, "[[Int]!]!", ref("Int", "NLNL"), api.OK)
	checkParse(t, "\t#a\n[#]]\r User,,\n!]#", ref("User", "LN"), api.OK)
	checkError(t, "User!!", api.ErrForm)
}

func TestParseMalformed(t *testing.T) {
	tests := []string{
		"", " ", "#User", ",", "!", "[]", "[!]", "[", "]", "[[]]", "[User", "User]", "[User]]", "[[User]", "!User", "User User",
		"[User User]", "[User, Post]", "[User]!!", "[User!!]", "[User][User]", "User[]", "[User]User", "User![", "User!]", "]User[",
		"1", "-1", "[1]", "\"User\"", "[\"User\"]", "\"[\" User \"]\"", "User \"!\"", "\"[User]\"", "\"\"", "User \"\"", "User 1",
		"$User", "(User)", "{User}", "User = 1", "User: User", "User | Post", "User & Post", "@User", "...", "...User", "User...",
		"%", "User;", "User?", "User\x00", "\xffUser", "é", "User.", "1a", "User 01", "User \"", "User-", strings.Repeat("x", 65),
	}
	for _, s := range tests {
		checkError(t, s, api.ErrForm)
	}
}

// The error of the tokens comes first, even behind what is no type.
func TestParseErrorsOfTokens(t *testing.T) {
	const large = "99999999999999999999"
	for _, s := range []string{large, "User " + large, "User!! " + large, "] " + large, strings.Repeat("[", 30) + "User " + large, "-" + large} {
		checkError(t, s, api.ErrSize)
	}
	for _, s := range []string{"% " + large, "User User \"", "User ~ " + large, strings.Repeat("[", 30) + large + "a"} {
		checkError(t, s, api.ErrForm)
	}
	checkParse(t, "User"+strings.Repeat(" ", api.MaxText-4), ref("User", ""), api.OK)
	checkError(t, "User"+strings.Repeat(" ", api.MaxText-3), api.ErrSize)
	checkError(t, strings.Repeat("%", api.MaxText), api.ErrForm)
	checkError(t, strings.Repeat("%", api.MaxText+1), api.ErrSize)
	checkError(t, strings.Repeat("[", api.MaxText+1), api.ErrSize)
}

func TestParseDepth(t *testing.T) {
	codes := map[bool]api.Errno{true: api.OK, false: api.ErrDepth}
	check := func(wraps string) {
		want := api.Ref{}
		if len(wraps) <= 24 {
			want = ref("User", wraps)
		}
		checkParse(t, expectedText("User", wraps), want, codes[len(wraps) <= 24])
	}
	for n := range 60 {
		check(strings.Repeat("L", n))
		check(strings.Repeat("L", n) + "N")
		check("N" + strings.Repeat("L", n))
		check(strings.Repeat("LN", n))
		check(strings.Repeat("NL", n))
		check(strings.Repeat("NL", n) + "N")
	}
	// A malformed reference has no depth.
	for _, n := range []int{24, 25, 26, 1000, 30000} {
		before, after := strings.Repeat("[", n), strings.Repeat("]", n)
		code := codes[n <= 24]
		if code != api.OK {
			checkError(t, before+"User"+after, code)
			checkError(t, before+"User!"+after+"!", code)
		}
		for _, s := range []string{before + "User" + after + "]", before + "User" + after[1:], before + after, before, after, before + "User!!" + after, before + "User" + after + "!!", before + "User" + after + " User"} {
			checkError(t, s, api.ErrForm)
		}
	}
	checkError(t, strings.Repeat("[", api.MaxText), api.ErrForm)
	checkError(t, strings.Repeat("[", api.MaxText/2-1)+"a!"+strings.Repeat("]", api.MaxText/2-1), api.ErrDepth)
}

// isType reduces tokens, of which T stands for a name, by the rules of the grammar, until none applies.
func isType(s string) bool {
	for {
		// U is a non-null type, which cannot be followed by another exclamation mark.
		reduced := strings.NewReplacer("T!", "U", "[T]", "T", "[U]", "T").Replace(s)
		if reduced == s {
			return s == "T" || s == "U"
		}
		s = reduced
	}
}

// kindsOf returns the tokens of s as isType reads them, with x for those that no type has.
func kindsOf(tokens []token.Token) string {
	s := ""
	for _, x := range tokens[:len(tokens)-1] {
		switch {
		case x.Kind == token.Name:
			s += "T"
		case x.Kind == token.Sign && strings.Contains("[]!", x.Text):
			s += x.Text
		default:
			s += "x"
		}
	}
	return s
}

// checkText expects what the tokens of s say, and returns whether it has a reference.
func checkText(t *testing.T, s string) bool {
	t.Helper()
	got, err := typeref.Parse(s)
	tokens, _, code := token.Scan(s)
	if code == api.OK && !isType(kindsOf(tokens)) {
		code = api.ErrForm
	}
	if err != code {
		t.Errorf("Parse(%q) is %d, not %d", s, err, code)
		return false
	}
	if code != api.OK {
		checkRef(t, "Parse("+s+")", got, api.Ref{})
		return false
	}
	want := strings.ReplaceAll(token.Print(tokens), " ", "")
	if !typeref.Right(got) || typeref.Print(got) != want {
		t.Errorf("Parse(%q) is %v", s, got)
	}
	return true
}

func TestParseShortTexts(t *testing.T) {
	count := 0
	var visit func(s string, most int)
	visit = func(s string, most int) {
		if checkText(t, s) {
			count++
		}
		if most > 0 {
			for _, part := range []string{"[", "]", "!", "a"} {
				visit(s+part, most-1)
			}
		}
	}
	visit("", 8)
	if count < 30 {
		t.Error(count)
	}
}

func TestParseShortLists(t *testing.T) {
	parts := []string{"[", "]", "!", "User", " ", ",\n", "#!\r", "1", "\"a\"", "\"[\"", "...", "{", "$", "."}
	for _, a := range parts {
		for _, b := range parts {
			for _, c := range parts {
				for _, d := range parts {
					checkText(t, a+b+c+d)
				}
			}
			checkText(t, "["+a+"User"+b+"]")
			checkText(t, a+"[User]"+b+"!")
		}
	}
}

// Every byte is put into every place, and in place of every other one.
func TestParseEveryByte(t *testing.T) {
	for _, s := range []string{"User", "User!", "[User!]!", "[[a]!]", " [ User ! ] "} {
		for i := range len(s) + 1 {
			for c := range 256 {
				checkText(t, s[:i]+string([]byte{byte(c)})+s[i:])
				if i < len(s) {
					checkText(t, s[:i]+string([]byte{byte(c)})+s[i+1:])
				}
			}
		}
	}
}

// Separators between tokens change nothing.
func TestParseSeparators(t *testing.T) {
	eachWraps("NL", 5, func(wraps string) {
		if strings.Contains(wraps, "NN") {
			return
		}
		tokens, _, _ := token.Scan(expectedText("User", wraps))
		for _, separator := range []string{" ", "\t", "\n", "\r", ",", "#!]\n", "#\r", " ,, # [\n\t"} {
			s := separator
			for _, x := range tokens {
				s += x.Text + separator
			}
			checkParse(t, s, ref("User", wraps), api.OK)
			checkParse(t, s+"#", ref("User", wraps), api.OK)
		}
	})
}
