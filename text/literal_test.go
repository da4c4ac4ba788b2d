package text

import (
	"math/rand"
	"regexp"
	"strconv"
	"strings"
	"testing"

	"supergraph/api"
)

// quotedByte is the expected part of a literal for one byte, as the chapter lists it.
func quotedByte(c int) string {
	escapes := map[int]string{'"': `\"`, '\\': `\\`, '\n': `\n`, '\r': `\r`, '\t': `\t`}
	if s, ok := escapes[c]; ok {
		return s
	}
	if c >= 32 && c <= 126 {
		return string(rune(c))
	}
	return `\u00` + strconv.FormatInt(int64(c>>4), 16) + strconv.FormatInt(int64(c&15), 16)
}

func checkQuote(t *testing.T, s, want string) {
	t.Helper()
	got := Quote(s)
	if got != want {
		t.Errorf("Quote(%q) is %s", s, got)
	}
	for i := range len(got) {
		if got[i] < 32 || got[i] > 126 {
			t.Errorf("Quote(%q) has the byte %d", s, got[i])
		}
	}
}

func checkUnquote(t *testing.T, literal, want string, code api.Errno) {
	t.Helper()
	if got, err := Unquote(literal); got != want || err != code {
		t.Errorf("Unquote(%q) is %q, %d", literal, got, err)
	}
}

// P1.2

func TestQuoteEveryByte(t *testing.T) {
	all := make([]byte, 256)
	parts := make([]string, 256)
	for c := range 256 {
		all[c] = byte(c)
		parts[c] = quotedByte(c)
		checkQuote(t, string([]byte{byte(c)}), `"`+parts[c]+`"`)
		checkQuote(t, string([]byte{'a', byte(c), '0'}), `"a`+parts[c]+`0"`)
	}
	checkQuote(t, string(all), `"`+strings.Join(parts, "")+`"`)
}

func TestQuoteExamples(t *testing.T) {
	tests := [][2]string{
		{"", `""`},
		{"a\"\xc8", `"a\"\u00c8"`},
		{"/", `"/"`},
		{"\b\f\v\x00\x1b\x7f", `"\u0008\u000c\u000b\u0000\u001b\u007f"`},
		{"é", `"\u00c3\u00a9"`},
		{"\ufffd", `"\u00ef\u00bf\u00bd"`},
		{`\u0041`, `"\\u0041"`},
		{`""`, `"\"\""`},
		{"~ \x1f", `"~ \u001f"`},
		{"\xffab", `"\u00ffab"`},
	}
	for _, x := range tests {
		checkQuote(t, x[0], x[1])
	}
}

// P1.3

func TestUnquoteQuoteOfPairs(t *testing.T) {
	for a := range 256 {
		for b := range 256 {
			s := string([]byte{byte(a), byte(b)})
			checkUnquote(t, Quote(s), s, api.OK)
		}
	}
}

func TestUnquoteQuoteOfLongStrings(t *testing.T) {
	source := rand.New(rand.NewSource(1))
	for length := 0; length < 2000; length += 7 {
		b := make([]byte, length)
		source.Read(b)
		checkUnquote(t, Quote(string(b)), string(b), api.OK)
	}
	eachString("\"\\u0n\n\xe9", 5, func(s string) { checkUnquote(t, Quote(s), s, api.OK) })
	long := strings.Repeat("\"\\\x00é", 1<<16)
	checkUnquote(t, Quote(long), long, api.OK)
}

// P1.4

func TestUnquoteEveryByte(t *testing.T) {
	for c := range 256 {
		s := string([]byte{byte(c)})
		if c < 32 || c > 126 || c == '"' || c == '\\' {
			checkUnquote(t, `"`+s+`"`, "", api.ErrForm)
			checkUnquote(t, `"a`+s+`a"`, "", api.ErrForm)
		} else {
			checkUnquote(t, `"`+s+`"`, s, api.OK)
			checkUnquote(t, `"a`+s+`a"`, "a"+s+"a", api.OK)
		}
	}
}

func TestUnquoteEveryEscape(t *testing.T) {
	meanings := map[int]string{
		'"': `"`, '\\': `\`, '/': "/", 'b': "\x08", 'f': "\x0c", 'n': "\x0a", 'r': "\x0d", 't': "\x09",
	}
	for c := range 256 {
		literal := `"x\` + string([]byte{byte(c)}) + `y"`
		if s, ok := meanings[c]; ok {
			checkUnquote(t, literal, "x"+s+"y", api.OK)
		} else {
			checkUnquote(t, literal, "", api.ErrForm)
		}
	}
}

func TestUnquoteEveryNumber(t *testing.T) {
	for n := range 1 << 16 {
		digits := strconv.FormatInt(int64(n), 16)
		digits = strings.Repeat("0", 4-len(digits)) + digits
		want, code := "", api.ErrForm
		if n <= 255 {
			want, code = string([]byte{byte(n)}), api.OK
		}
		checkUnquote(t, `"\u`+digits+`"`, want, code)
		checkUnquote(t, `"\u`+strings.ToUpper(digits)+`"`, want, code)
	}
	checkUnquote(t, `"\u00aF\u00Fa"`, "\xaf\xfa", api.OK)
}

func TestUnquoteEveryDigit(t *testing.T) {
	for place := range 4 {
		for c := range 256 {
			digits := []byte("0000")
			digits[place] = byte(c)
			n, err := strconv.ParseUint(string(digits), 16, 8)
			if err == nil {
				checkUnquote(t, `"\u`+string(digits)+`"`, string([]byte{byte(n)}), api.OK)
			} else {
				checkUnquote(t, `"\u`+string(digits)+`"`, "", api.ErrForm)
			}
		}
	}
}

func TestUnquoteExamples(t *testing.T) {
	tests := [][2]string{
		{`""`, ""},
		{`"a\u0041"`, "aA"},
		{`"\u00411"`, "A1"},
		{`"\\u0041"`, `\u0041`},
		{`"\\\\"`, `\\`},
		{`"\\\""`, `\"`},
		{`"\/\b\f\n\r\t"`, "/\b\f\n\r\t"},
		{`" '#{}$ "`, " '#{}$ "},
	}
	for _, x := range tests {
		checkUnquote(t, x[0], x[1], api.OK)
	}
}

func TestUnquoteMalformed(t *testing.T) {
	tests := []string{
		``, `"`, `a`, `ab`, `"a`, `a"`, `a""`, `""a`, ` ""`, `"" `, `"""`, `""""`, `"a"b"`, `'a'`,
		`"\"`, `"\\\"`, `"a\"`, `"\u"`, `"\u0"`, `"\u00"`, `"\u004"`, `"\u004`, `"\u0100"`, `"\uffff"`, `"\u004g"`, `"\u+041"`,
		`"\u00 1"`, `"\u{41}"`, `"\U0041"`, `"\N"`, `"\x41"`, `"\0"`, `"\ "`, `"\'"`, `"\u0041\"`,
		"\"\n\"", "\"\t\"", "\"\x00\"", "\"\x7f\"", "\"é\"", "\"\xff\"", "\"\\\n\"", "\"\\\xff\"",
	}
	for _, s := range tests {
		checkUnquote(t, s, "", api.ErrForm)
	}
}

// Every short content of a literal is compared with a pattern of the chapter's rules.
func TestUnquoteOfShortStrings(t *testing.T) {
	pattern := regexp.MustCompile(`^"([ !#-\[\]-~]|\\["\\/bfnrt]|\\u00[0-9a-fA-F]{2})*"$`)
	check := func(s string) {
		got, err := Unquote(s)
		if !pattern.MatchString(s) {
			if got != "" || err != api.ErrForm {
				t.Errorf("Unquote(%q) is %q, %d", s, got, err)
			}
			return
		}
		// Go's own literals have the same escapes but \/, and \x for the numbers of bytes.
		want, _ := strconv.Unquote(strings.NewReplacer(`\\`, `\\`, `\/`, `/`, `\u00`, `\x`).Replace(s))
		if got != want || err != api.OK {
			t.Errorf("Unquote(%q) is %q, %d, not %q", s, got, err, want)
		}
	}
	eachString("\"\\u0nA/", 6, func(s string) {
		check(s)
		check(`"` + s + `"`)
	})
	eachString("\"\\u0f1", 3, func(s string) {
		check(`"\u0` + s + `"`)
		check(`"\u00` + s + `"`)
	})
}
