package json_test

import (
	"math"
	"math/big"
	"reflect"
	"strconv"
	"strings"
	"testing"

	"supergraph/api"
	"supergraph/json"
)

// normal gives v the form that tests compare: without empty slices.
func normal(v api.Value) api.Value {
	if len(v.Keys) == 0 {
		v.Keys = nil
	}
	items := v.Items
	v.Items = nil
	for _, item := range items {
		v.Items = append(v.Items, normal(item))
	}
	return v
}

func checkValue(t *testing.T, s string, want api.Value) {
	t.Helper()
	v, at, err := json.Parse(s)
	if at != 0 || err != api.OK || !reflect.DeepEqual(normal(v), normal(want)) {
		t.Errorf("Parse(%.200q) is %v, %d, %d, not %v", s, v, at, err, want)
	}
}

func checkError(t *testing.T, s string, index int, code api.Errno) {
	t.Helper()
	v, at, err := json.Parse(s)
	if at != index || err != code || !reflect.DeepEqual(normal(v), api.Value{}) {
		t.Errorf("Parse(%.200q) is %v, %d, %d, not %d, %d", s, v, at, err, index, code)
	}
}

// P3.2

func TestParseExamples(t *testing.T) {
	yes, no := node(api.VBool, 1, ""), node(api.VBool, 0, "")
	tests := []struct {
		s    string
		want api.Value
	}{
		{`[1, {"a": true}]`, list(number(1), fields([]string{"a"}, yes))},
		{`"\u0041"`, text("A")},
		{"null", api.Value{}},
		{"true", yes},
		{"false", no},
		{"0", number(0)},
		{"-12", number(-12)},
		{"1203", number(1203)},
		{`""`, text("")},
		{`"RED"`, text("RED")},
		{`"\"\\\/\b\f\n\r\t"`, text("\"\\/\b\f\n\r\t")},
		{`"\u00c8\u00C8\u000a\u0000x"`, text("\xc8\xc8\n\x00x")},
		{`"\u00410"`, text("A0")},
		{`"\\u0041"`, text(`\u0041`)},
		{`"[1,{}]"`, text("[1,{}]")},
		{"[]", list()},
		{"{}", fields(nil)},
		{"[[],{},[[]]]", list(list(), fields(nil), list(list()))},
		{"[null,true,false,0,-1]", list(api.Value{}, yes, no, number(0), number(-1))},
		{`{"b":1,"a":{"b":2},"":[]}`, fields([]string{"b", "a", ""}, number(1), fields([]string{"b"}, number(2)), list())},
		{`{"\u0061":1,"A":2,"a ":3}`, fields([]string{"a", "A", "a "}, number(1), number(2), number(3))},
		{`{"null":null}`, fields([]string{"null"}, api.Value{})},
		{" \t\n\r[ \t\n\r1 \t\n\r, \t\n\r2 \t\n\r] \t\n\r", list(number(1), number(2))},
		{" \t\n\r{ \t\n\r\"a\" \t\n\r: \t\n\r1 \t\n\r, \t\n\r\"b\" \t\n\r: \t\n\r2 \t\n\r} \t\n\r", fields([]string{"a", "b"}, number(1), number(2))},
		{"[ ]", list()},
		{"{\n}", fields(nil)},
		{"\r-5\t", number(-5)},
		{` " a " `, text(" a ")},
	}
	for _, x := range tests {
		checkValue(t, x.s, x.want)
	}
}

func TestParseMalformed(t *testing.T) {
	tests := []struct {
		s  string
		at int
	}{
		{"01", 1}, {"-0", 1}, {"1.5", 1}, {"[1,]", 3}, {`"\u0141"`, 4},
		{"", 0}, {" ", 1}, {" \t\n\r", 4}, {"\x00", 0}, {"1\x00", 1}, {"\v1", 0}, {"\f1", 0}, {"\xa01", 0}, {"\ufeff1", 0}, {"#", 0},
		{"-", 1}, {"- 1", 1}, {"--1", 1}, {"-01", 1}, {"-a", 1}, {"+1", 0}, {"00", 1}, {"012", 1}, {"1e5", 1}, {"10E1", 2}, {"0x1", 1}, {".5", 0}, {"1_0", 1}, {"1 2", 2},
		{"nul", 3}, {"nulx", 3}, {"nullx", 4}, {"nULL", 1}, {"Null", 0}, {"none", 1}, {"null null", 5}, {"n", 1}, {"t", 1}, {"tru", 3}, {"truE", 3}, {"truee", 4}, {"f", 1}, {"fals", 4}, {"falze", 3}, {"falsefalse", 5}, {"undefined", 0}, {"NaN", 0},
		{"[", 1}, {"[ ", 2}, {"[,", 1}, {"[1", 2}, {"[1 ", 3}, {"[1,", 3}, {"[1, ", 4}, {"[1 2]", 3}, {"[1,,2]", 3}, {"[1}", 2}, {"[}", 1}, {"[1:2]", 2}, {"[]]", 2}, {"[1]1", 3}, {"]", 0}, {"[01]", 2}, {"[1;2]", 2}, {"[[1]", 4}, {"[[1,]]", 4},
		{"{", 1}, {"{ ", 2}, {"{,", 1}, {"{]", 1}, {"{a:1}", 1}, {"{1:1}", 1}, {"{null:1}", 1}, {`{"a"`, 4}, {`{"a" `, 5}, {`{"a" 1}`, 5}, {`{"a"}`, 4}, {`{"a",`, 4}, {`{"a":`, 5}, {`{"a":}`, 5}, {`{"a":,`, 5}, {`{"a"::`, 5}, {`{"a":1`, 6}, {`{"a":1,}`, 7}, {`{"a":1,`, 7}, {`{"a":1,,`, 7}, {`{"a":1 "b"`, 7}, {`{"a":1]`, 6}, {`{"a":1,2}`, 7}, {`{"a":1,"b"}`, 10}, {"{}}", 2}, {"}", 0}, {`{'a':1}`, 1}, {`{"a":01}`, 6}, {`{"a" = 1}`, 5}, {`{[`, 1},
		{`"`, 1}, {`"a`, 2}, {`"a"b`, 3}, {`"a""b"`, 3}, {`"\`, 2}, {`"\"`, 3}, {`"\x"`, 2}, {`"\U0041"`, 2}, {`"\0"`, 2}, {`"\'"`, 2}, {`"\v"`, 2}, {`"\a"`, 2}, {`'a'`, 0}, {"`a`", 0},
		{`"\u`, 3}, {`"\u"`, 3}, {`"\u1041"`, 3}, {`"\u0`, 4}, {`"\u0"`, 4}, {`"\u0100"`, 4}, {`"\u00`, 5}, {`"\u00"`, 5}, {`"\u00g0"`, 5}, {`"\u004`, 6}, {`"\u004"`, 6}, {`"\u004G"`, 6}, {`"\u0041`, 7}, {`"\u-041"`, 3}, {`"\ud800"`, 3}, {`"\u 041"`, 3}, {`"\u004 "`, 6}, {`"\u{41}"`, 3},
		{"\"\x7f\"", 1}, {"\"\x1f\"", 1}, {"\"\n\"", 1}, {"\"\t\"", 1}, {"\"\x00\"", 1}, {"\"a\xc3\xa9\"", 2}, {"\"\xff\"", 1}, {"\"\\\n\"", 2},
		{"[1,\"\n\"]", 4}, {`{"\x":1}`, 3}, {`{"a":"\u01"}`, 9}, {`[tru]`, 4}, {`[nul,1]`, 4}, {`{"a":-}`, 6}, {`[-,1]`, 2}, {"[1,2", 4}, {"// a", 0}, {"1 // a", 2},
	}
	for _, x := range tests {
		checkError(t, x.s, x.at, api.ErrForm)
		// What follows the wrong byte makes no difference.
		if x.at < len(x.s) {
			checkError(t, x.s[:x.at+1], x.at, api.ErrForm)
			checkError(t, x.s+`"]}\x`, x.at, api.ErrForm)
		}
	}
}

// The bytes of a string that is not escaped, and of a key.
func TestParseEveryByteOfStrings(t *testing.T) {
	for c := range 256 {
		s := string([]byte{byte(c)})
		if c == '"' || c == '\\' {
			continue
		}
		if c >= 32 && c <= 126 {
			checkValue(t, `"a`+s+`0"`, text("a"+s+"0"))
			checkValue(t, `{"`+s+`":1}`, fields([]string{s}, number(1)))
		} else {
			checkError(t, `"a`+s+`0"`, 2, api.ErrForm)
			checkError(t, `{"`+s+`":1}`, 2, api.ErrForm)
		}
	}
}

func TestParseEveryEscape(t *testing.T) {
	meanings := map[int]string{'"': `"`, '\\': `\`, '/': "/", 'b': "\x08", 'f': "\x0c", 'n': "\x0a", 'r': "\x0d", 't': "\x09"}
	for c := range 256 {
		literal := `"x\` + string([]byte{byte(c)}) + `y"`
		if s, ok := meanings[c]; ok {
			checkValue(t, literal, text("x"+s+"y"))
			checkValue(t, "{"+literal+":0}", fields([]string{"x" + s + "y"}, number(0)))
		} else if c == 'u' {
			checkError(t, literal, 4, api.ErrForm)
		} else {
			checkError(t, literal, 3, api.ErrForm)
		}
	}
}

func TestParseEveryNumberOfAByte(t *testing.T) {
	for n := range 1 << 16 {
		digits := strconv.FormatInt(int64(n), 16)
		digits = strings.Repeat("0", 4-len(digits)) + digits
		for _, literal := range []string{`"\u` + digits + `"`, `"\u` + strings.ToUpper(digits) + `"`} {
			switch {
			case n < 1<<8:
				checkValue(t, literal, text(string([]byte{byte(n)})))
			case n < 1<<12:
				checkError(t, literal, 4, api.ErrForm)
			default:
				checkError(t, literal, 3, api.ErrForm)
			}
		}
	}
}

func TestParseEveryDigitOfAByte(t *testing.T) {
	for place := range 4 {
		for c := range 256 {
			digits := []byte("0000")
			digits[place] = byte(c)
			if n, err := strconv.ParseUint(string(digits), 16, 8); err == nil {
				checkValue(t, `"\u`+string(digits)+`"`, text(string([]byte{byte(n)})))
			} else {
				checkError(t, `"\u`+string(digits)+`"`, 3+place, api.ErrForm)
			}
		}
	}
}

func checkInteger(t *testing.T, s string) {
	t.Helper()
	n, _ := new(big.Int).SetString(s, 10)
	if n.IsInt64() {
		checkValue(t, s, number(int(n.Int64())))
		checkValue(t, "[1,"+s+" ]", list(number(1), number(int(n.Int64()))))
		checkError(t, "["+s+"x", 1+len(s), api.ErrForm)
		return
	}
	checkError(t, s, 0, api.ErrSize)
	checkError(t, "  "+s+"\n", 2, api.ErrSize)
	checkError(t, `{"a":[1, `+s+"]}", 9, api.ErrSize)
}

func TestParseIntegers(t *testing.T) {
	for shift := range uint(140) {
		for delta := int64(-2); delta <= 2; delta++ {
			n := new(big.Int).Lsh(big.NewInt(1), shift)
			n.Add(n, big.NewInt(delta))
			checkInteger(t, n.String())
			checkInteger(t, n.Neg(n).String())
		}
	}
	for length := 1; length < 40; length++ {
		for _, digit := range []string{"1", "9"} {
			checkInteger(t, strings.Repeat(digit, length))
			checkInteger(t, "-"+strings.Repeat(digit, length))
		}
	}
	checkInteger(t, "1"+strings.Repeat("0", 1<<16))
	checkInteger(t, strconv.Itoa(math.MaxInt))
	checkInteger(t, strconv.Itoa(math.MinInt))
}

// An integer that is too large is found at its end: before a byte that is wrong there, and after
// nothing that comes before it.
func TestParseLargeIntegersBeforeWrongBytes(t *testing.T) {
	for _, large := range []string{"9223372036854775808", "-9223372036854775809", "10000000000000000000", "99999999999999999999999"} {
		for c := range 256 {
			if c < '0' || c > '9' {
				checkError(t, large+string([]byte{byte(c)}), 0, api.ErrSize)
				checkError(t, `{"a":`+large+string([]byte{byte(c)}), 5, api.ErrSize)
			}
		}
		checkError(t, "["+large, 1, api.ErrSize)
		checkError(t, "["+large+","+large+"5]", 1, api.ErrSize)
		checkError(t, "[1 "+large, 3, api.ErrForm)
		checkError(t, "[01,"+large+"]", 2, api.ErrForm)
		checkError(t, `"`+large, 1+len(large), api.ErrForm)
		checkValue(t, `"`+large+`"`, text(large))
		checkError(t, `{"a":1,"a":`+large+"}", 7, api.ErrTwice)
		checkError(t, `{"a":`+large+`,"a":1}`, 5, api.ErrSize)
	}
	checkError(t, "-09223372036854775808", 1, api.ErrForm)
	checkError(t, "09223372036854775808", 1, api.ErrForm)
}

func TestParseRepeatedKeys(t *testing.T) {
	tests := []struct {
		s  string
		at int
	}{
		{`{"a":1,"a":2}`, 7},
		{`{"a":1,"a"`, 7},
		{`{"a":1,"a"x`, 7},
		{`{"a":1, "a" :2}`, 8},
		{`{"a":1,` + "\n\t\r \"a\":2}", 11},
		{`{"a":1,"b":2,"a":3}`, 13},
		{`{"b":1,"a":2,"a":3}`, 13},
		{`{"a":1,"a":2,"a":3}`, 7},
		{`{"a":1,"\u0061":2}`, 7},
		{`{"\u0061":1,"a":2}`, 12},
		{`{"\/":1,"/":2}`, 8},
		{`{"\u00c8":1,"\u00C8":2}`, 12},
		{`{"":1,"":2}`, 6},
		{`{"a":{"a":1},"a":2}`, 13},
		{`{"a":{"b":1,"b":2},"a":3}`, 12},
		{`[{"a":1},{"a":1,"a":2}]`, 16},
		{`{"b":[{"a":1,"a":2}]}`, 13},
		{`{"a":1,"a":01}`, 7},
		{`{"a":1,"a"` + "\x00", 7},
	}
	for _, x := range tests {
		checkError(t, x.s, x.at, api.ErrTwice)
	}
	// The key is not known before its closing quotation mark.
	checkError(t, `{"a":1,"a`, 9, api.ErrForm)
	checkError(t, `{"a":1,"a\`, 10, api.ErrForm)
	checkError(t, `{"a":1,"a`+"\n\"", 9, api.ErrForm)
	checkError(t, `{"a":1,"a\"`, 11, api.ErrForm)
	checkError(t, `{"a":1 "a"`, 7, api.ErrForm)
	checkError(t, `{"a":1,,"a"`, 7, api.ErrForm)
	checkError(t, `{"a":,"a"`, 5, api.ErrForm)
}

func TestParseEqualKeysOfDifferentObjects(t *testing.T) {
	one := fields([]string{"a"}, number(1))
	checkValue(t, `[{"a":1},{"a":1}]`, list(one, one))
	checkValue(t, `{"a":{"a":1}}`, fields([]string{"a"}, one))
	checkValue(t, `{"a":{"a":1},"b":{"a":1}}`, fields([]string{"a", "b"}, one, one))
	checkValue(t, `{"a":"a","b":"a"}`, fields([]string{"a", "b"}, text("a"), text("a")))
	checkValue(t, `["a","a"]`, list(text("a"), text("a")))
}

func TestParseManyKeys(t *testing.T) {
	want := fields(nil)
	s := "{"
	for n := range api.MaxNodes - 1 {
		key := strings.Repeat("k", n%7) + strconv.Itoa(n)
		want.Keys, want.Items = append(want.Keys, key), append(want.Items, number(n))
		s += `"` + key + `":` + strconv.Itoa(n) + ","
	}
	checkValue(t, s[:len(s)-1]+"}", want)
	for _, key := range []string{want.Keys[0], want.Keys[2000], want.Keys[len(want.Keys)-1]} {
		checkError(t, s+`"`+key+`":1}`, len(s), api.ErrTwice)
	}
	// A further key is none of the values; only its value is one too many.
	checkError(t, s+`"x":1}`, len(s)+4, api.ErrSize)
	checkError(t, s+`"x"}`, len(s)+3, api.ErrForm)
}
