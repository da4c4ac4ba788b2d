package json_test

import (
	standard "encoding/json"
	"math/rand"
	"regexp"
	"strings"
	"testing"

	"supergraph/api"
	"supergraph/json"
)

// P3.2: ErrForm, compared with its definition. Whether a text can be read at all is decided by Go's
// own package and a pattern of the parts that the chapter permits.

var readable = regexp.MustCompile(`^([ \t\n\r\[\]{},:]|null|true|false|0|-?[1-9][0-9]*|"([ !#-\[\]-~]|\\["\\/bfnrt]|\\u00[0-9a-fA-F]{2})*")*$`)

func canBeRead(s string) bool { return standard.Valid([]byte(s)) && readable.MatchString(s) }

var (
	wholeString = regexp.MustCompile(`"([^"\\]|\\.)*"`)
	openString  = regexp.MustCompile(`".*$`)
)

// closings returns what closes the lists and objects that are open at the end of s.
func closings(s string) string {
	s = openString.ReplaceAllString(wholeString.ReplaceAllString(s, ""), "")
	open := ""
	for _, c := range s {
		switch c {
		case '[':
			open = "]" + open
		case '{':
			open = "}" + open
		case ']', '}':
			if open == "" {
				return ""
			}
			open = open[1:]
		}
	}
	return open
}

// canGoOn reports whether a text that can be read begins with s: one that completes the last part
// of s and then, if need be, the field or the element that it belongs to.
func canGoOn(s string) bool {
	closing := closings(s)
	for _, end := range []string{"", "1", "null", "ull", "ll", "l", "rue", "ue", "e", "alse", "lse", "se", `"`, `n"`, `0000"`, `000"`, `00"`, `0"`} {
		if canBeRead(s + end + closing) {
			return true
		}
		if end != "" && !strings.HasSuffix(end, `"`) {
			continue
		}
		for _, field := range []string{":0", `"":0`, `"key":0`} {
			if canBeRead(s + end + field + closing) {
				return true
			}
		}
	}
	return false
}

// checkForm expects that s can go on, or ends with the first byte with which it cannot.
func checkForm(t *testing.T, s string) (goesOn bool) {
	t.Helper()
	if !canGoOn(s) {
		for _, junk := range []string{"", "\"", "]", "0", "x"} {
			checkError(t, s+junk, len(s)-1, api.ErrForm)
		}
		return false
	}
	if !canBeRead(s) {
		checkError(t, s, len(s), api.ErrForm)
		return true
	}
	if _, at, err := json.Parse(s); at != 0 || err != api.OK {
		t.Errorf("Parse(%q) is %d, %d", s, at, err)
	}
	return true
}

// eachContinuation checks s with every sequence of at most most bytes of alphabet, as far as it can go on.
func eachContinuation(t *testing.T, s, alphabet string, most int) {
	if s != "" && !checkForm(t, s) || most == 0 {
		return
	}
	for i := range len(alphabet) {
		eachContinuation(t, s+alphabet[i:i+1], alphabet, most-1)
	}
}

func TestParseShortTexts(t *testing.T) {
	eachContinuation(t, "", "[]{},:\"\\ u0n1-\t", 5)
	for _, start := range []string{`{"a":`, `[1,`, `{"a":[`, `{"a":1`, `{"a":1,"b`, `[[1],{`, `["\u00`, `[{"a":{}}`, "-1", "0 ", "tr", "[fals", "[nul"} {
		eachContinuation(t, start, "[]{},:\"\\ eul0n1-/", 3)
	}
}

// The starts end in every place where a text can be, each of which is followed by every byte.
func TestParseEveryByteInEveryPlace(t *testing.T) {
	all := ""
	for c := range 256 {
		all += string([]byte{byte(c)})
	}
	whole := " [ -12 , 0 , null , true , false , \"a\\n\\u00Ff\" , [ ] , { } , { \"k\" : 1 , \"l\\/\" : [ [ 2 ] ] } ] "
	for i := range len(whole) + 1 {
		eachContinuation(t, whole[:i], all, 1)
	}
	for _, start := range []string{"[-1", "[10", "{", `{"a"`, `{"a":`, `{"a":1`, `{"a":1,`, `{"a":1,"`, `{"a":""`, `{"a":"\`, `{"a":"\u`, `{"a":"\u0`, `{"a":"\u00`, `{"a":"\u000`, `{"a":"\u0000`, "[[]", "[{}"} {
		eachContinuation(t, start, all, 1)
	}
}

// spread puts spaces before, between and after the parts of s.
func spread(r *rand.Rand, s string) string {
	parts := regexp.MustCompile(`"([^"\\]|\\.)*"|[^\[\]{},:"]+|.`).FindAllString(s, -1)
	result := ""
	for _, part := range append(parts, "") {
		for range r.Intn(3) * r.Intn(2) {
			result += []string{" ", "\t", "\n", "\r"}[r.Intn(4)]
		}
		result += part
	}
	return result
}

// firstWrong returns the index of the first byte with which s cannot go on, and whether there is an error.
func firstWrong(s string) (int, bool) {
	for i := range len(s) {
		if !canGoOn(s[:i+1]) {
			return i, true
		}
	}
	return len(s), !canBeRead(s)
}

// The strings of these values differ by more than one byte, so that a changed byte repeats no key.
func TestParseChangedTexts(t *testing.T) {
	r := rand.New(rand.NewSource(5))
	changes := "[]{},:\"\\ 019-+.eunltra/\n\x00\x7f\xc8"
	wrong := 0
	for range 1500 {
		s, _ := json.Print(rightValue(r, 4))
		s = spread(r, s)
		if len(s) > 60 {
			continue
		}
		at := r.Intn(len(s))
		c := changes[r.Intn(len(changes))]
		switch r.Intn(3) {
		case 0:
			s = s[:at] + string([]byte{c}) + s[at+1:]
		case 1:
			s = s[:at] + string([]byte{c}) + s[at:]
		case 2:
			s = s[:at] + s[at+1:]
		}
		if index, err := firstWrong(s); err {
			wrong++
			checkError(t, s, index, api.ErrForm)
		} else if _, index, code := json.Parse(s); index != 0 || code != api.OK {
			t.Errorf("Parse(%q) is %d, %d", s, index, code)
		}
	}
	if wrong < 300 {
		t.Error(wrong)
	}
}

// Go's own package reads the same value, if each byte of a string is taken as a character.
func TestParseReadsWhatGoReads(t *testing.T) {
	r := rand.New(rand.NewSource(6))
	for range 3000 {
		printed, _ := json.Print(rightValue(r, 5))
		s := spread(r, printed)
		v, _, err := json.Parse(s)
		decoder := standard.NewDecoder(strings.NewReader(s))
		decoder.UseNumber()
		if got := decode(t, decoder); err != api.OK || !same(v, got) {
			t.Errorf("Parse(%q) is %v, %d, not %v", s, v, err, got)
		}
	}
}

func decode(t *testing.T, d *standard.Decoder) api.Value {
	token, err := d.Token()
	if err != nil {
		t.Fatal(err)
	}
	switch token := token.(type) {
	case bool:
		if token {
			return node(api.VBool, 1, "")
		}
		return node(api.VBool, 0, "")
	case standard.Number:
		n, err := token.Int64()
		if err != nil {
			t.Fatal(err)
		}
		return number(int(n))
	case string:
		return text(bytesOf(token))
	case standard.Delim:
		v := api.Value{Kind: api.VList}
		if token == '{' {
			v.Kind = api.VObject
		}
		for d.More() {
			if token == '{' {
				v.Keys = append(v.Keys, decode(t, d).Text)
			}
			v.Items = append(v.Items, decode(t, d))
		}
		d.Token()
		return v
	}
	return api.Value{}
}

func bytesOf(s string) string {
	var b []byte
	for _, c := range s {
		b = append(b, byte(c))
	}
	return string(b)
}
