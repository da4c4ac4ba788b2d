package json_test

import (
	"strings"
	"testing"

	"supergraph/api"
)

// P3.2: the limits of levels and values.

// The first bytes of values, in lists and objects of so many levels; the last level is a leaf or empty.
func TestParseLevels(t *testing.T) {
	for levels := 1; levels <= api.MaxDepth; levels++ {
		opening, closing := strings.Repeat("[", levels-1), strings.Repeat("]", levels-1)
		checkValue(t, opening+"1"+closing, nested(number(1), levels-1))
		checkValue(t, opening+"[]"+closing, nested(list(), levels-1))
		checkValue(t, opening+"{ }"+closing, nested(fields(nil), levels-1))
		want := text("x")
		for range levels - 1 {
			want = fields([]string{"a"}, want)
		}
		checkValue(t, strings.Repeat(`{"a": `, levels-1)+`"x"`+strings.Repeat("}", levels-1), want)
	}
}

func TestParseTooManyLevels(t *testing.T) {
	for _, opening := range []string{
		strings.Repeat("[", api.MaxDepth),
		strings.Repeat(`{"a":`, api.MaxDepth),
		strings.Repeat(`[{"a":`, api.MaxDepth/2),
		strings.Repeat("[ ", api.MaxDepth),
		"[1,[],[[2]],{}," + strings.Repeat("[", api.MaxDepth-1),
	} {
		for c := range 256 {
			s := string([]byte{byte(c)})
			switch {
			case c != 0 && strings.Contains(" \t\n\r", s):
				checkError(t, opening+s+"1", len(opening)+1, api.ErrDepth)
			case strings.Contains(`"-0123456789[{ntf`, s):
				checkError(t, opening+s, len(opening), api.ErrDepth)
				checkError(t, opening+s+"x", len(opening), api.ErrDepth)
			case c != ']' || strings.HasSuffix(opening, ":"):
				checkError(t, opening+s, len(opening), api.ErrForm)
			}
		}
	}
	checkError(t, strings.Repeat("[", 100), api.MaxDepth, api.ErrDepth)
	checkError(t, strings.Repeat("[", 1<<20), api.MaxDepth, api.ErrDepth)
	checkError(t, strings.Repeat("[", api.MaxDepth)+"9223372036854775808]", api.MaxDepth, api.ErrDepth)
	checkError(t, strings.Repeat("[", api.MaxDepth-1)+"9223372036854775808]", api.MaxDepth-1, api.ErrSize)
}

// Levels are those of a value, not of the text before it.
func TestParseLevelsAreCountedApart(t *testing.T) {
	deep := strings.Repeat("[", api.MaxDepth-1) + strings.Repeat("]", api.MaxDepth-1)
	want := nested(list(), api.MaxDepth-2)
	checkValue(t, "["+deep+","+deep+"]", list(want, want))
	checkValue(t, `{"a":`+deep+`,"b":`+deep+"}", fields([]string{"a", "b"}, want, want))
	checkError(t, "["+deep+",["+deep, 1+len(deep)+api.MaxDepth, api.ErrDepth)
	// Keys have no level.
	inner := strings.Repeat("[", api.MaxDepth-1)
	checkError(t, inner+`{"a"`, len(inner)+4, api.ErrForm)
	checkError(t, inner+`{"a":1`, len(inner)+5, api.ErrDepth)
}

func repeatList(item string, count int) string {
	return "[" + strings.Repeat(item+",", count-1) + item + "]"
}

func TestParseValues(t *testing.T) {
	tests := []struct {
		item  string
		v     api.Value
		nodes int
	}{
		{"1", number(1), 1},
		{"null", api.Value{}, 1},
		{` "a\"," `, text(`a",`), 1},
		{"[]", list(), 1},
		{"{ }", fields(nil), 1},
		{"[1]", list(number(1)), 2},
		{`{"a":1}`, fields([]string{"a"}, number(1)), 2},
		{`{"a":[1,2],"b":null}`, fields([]string{"a", "b"}, list(number(1), number(2)), api.Value{}), 5},
	}
	for _, x := range tests {
		count := (api.MaxNodes - 1) / x.nodes
		want := api.Value{Kind: api.VList}
		for range count {
			want.Items = append(want.Items, x.v)
		}
		s := repeatList(x.item, count)
		checkValue(t, s, want)
		// Single values fill what the repeated item leaves; the next value is one too many.
		s = s[:len(s)-1]
		for range api.MaxNodes - 1 - count*x.nodes {
			s += ",7"
			want.Items = append(want.Items, number(7))
		}
		checkValue(t, s+"]", want)
		checkError(t, s+",7]", len(s)+1, api.ErrSize)
	}
}

func TestParseTooManyValues(t *testing.T) {
	full := repeatList("0", api.MaxNodes-1)
	full = full[:len(full)-1]
	for c := range 256 {
		s := string([]byte{byte(c)})
		switch {
		case strings.Contains(" \t\n\r", s):
			checkError(t, full+","+s+"1", len(full)+2, api.ErrSize)
		case strings.Contains(`"-0123456789[{ntf`, s):
			checkError(t, full+","+s, len(full)+1, api.ErrSize)
			checkError(t, full+","+s+"x", len(full)+1, api.ErrSize)
		default:
			checkError(t, full+","+s, len(full)+1, api.ErrForm)
		}
	}
	checkError(t, full, len(full), api.ErrForm)
	checkError(t, full+"x", len(full), api.ErrForm)
	checkError(t, full+",", len(full)+1, api.ErrForm)
	checkError(t, repeatList("0", 100*api.MaxNodes), len(full)+1, api.ErrSize)
	checkError(t, full+",9223372036854775808", len(full)+1, api.ErrSize)
}

// Of two limits that one byte exceeds, that of the levels comes first.
func TestParseBothLimits(t *testing.T) {
	opening := strings.Repeat("[", api.MaxDepth)
	for nodes := api.MaxNodes - 2; nodes <= api.MaxNodes+2; nodes++ {
		before := "[" + strings.Repeat("0,", nodes-api.MaxDepth) + opening[1:]
		if nodes <= api.MaxNodes {
			checkError(t, before+"1", len(before), api.ErrDepth)
			checkError(t, before+"]", len(before)+1, api.ErrForm)
			continue
		}
		// The value with the number MaxNodes + 1 comes before the level that is too deep.
		checkError(t, before+"1", len(before)-(nodes-api.MaxNodes), api.ErrSize)
	}
}
