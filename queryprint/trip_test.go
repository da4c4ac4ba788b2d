package queryprint_test

import (
	"math/rand"
	"strings"
	"testing"

	"supergraph/api"
	"supergraph/query"
	"supergraph/queryprint"
	"supergraph/token"
)

// P9.2

// checkTrip expects that the text of a right document is read as the document, and printed again as it was.
func checkTrip(t *testing.T, q api.Query) {
	t.Helper()
	s := queryprint.Print(q)
	got, at, code := query.Parse(s)
	if len(s) > api.MaxText {
		if at != api.MaxText || code != api.ErrSize {
			t.Errorf("%q with %d bytes: %d, %d", brief(s), len(s), at, code)
		}
		return
	}
	if whole(got) != whole(q) || at != 0 || code != api.OK {
		t.Errorf("%q is read as %s, %d, %d", brief(s), brief(whole(got)), at, code)
	}
	if again := queryprint.Print(got); again != s {
		t.Errorf("%q is printed again as %q", brief(s), brief(again))
	}
}

func TestPrintedDocumentsAreRead(t *testing.T) {
	read, long := 0, 0
	eachRight(func(_ source, q api.Query) {
		if t.Failed() {
			return
		}
		if len(queryprint.Print(q)) > api.MaxText {
			long++
		} else {
			read++
		}
		checkTrip(t, q)
	})
	if read < 1500 || long < 10 {
		t.Error("too few documents:", read, long)
	}
}

// The words that have a meaning in the grammar are names in all places where they may be.
func TestPrintedWordsAreRead(t *testing.T) {
	for _, w := range []string{"on", "query", "mutation", "subscription", "fragment", "true", "false", "null", "__a"} {
		q := document(spread("f"), field(w), api.Sel{Kind: api.SField, Alias: w, Name: w, Args: []api.Arg{arg(w, variable(w))}, Dirs: []api.Dir{directive(w, arg(w, object(w, listOf())))}}, inline(w, field(w)), field(w))
		q.Ops = append(q.Ops, api.Op{Kind: api.OSubscription, Name: w, Vars: []api.Var{{Name: w, Type: api.Ref{Name: w}}}, Sels: []api.Sel{inline("", field(w))}}, q.Ops[0])
		name := w
		if w == "on" {
			name = "onn"
		}
		q.Frags = append(q.Frags, api.Frag{Name: name, On: w, Sels: []api.Sel{spread(name), field(w), spread(name)}})
		if !query.Right(q) {
			t.Error("not right:", w)
		}
		checkTrip(t, q)
	}
}

// Documents whose text has about MaxText bytes.
func TestPrintedDocumentsOfTheGreatestLength(t *testing.T) {
	for length := api.MaxText - 3; length <= api.MaxText+3; length++ {
		q := document(field("a", inline("", api.Sel{Kind: api.SField, Name: "b", Args: []api.Arg{arg("x", str(""))}})))
		rest := length - len(queryprint.Print(q))
		q.Ops[0].Sels[0].Sels[0].Sels[0].Args[0].Value = str(strings.Repeat("x", rest))
		if n := len(queryprint.Print(q)); n != length {
			t.Error("the text has", n, "bytes, not", length)
		}
		checkTrip(t, q)
		if _, _, code := query.Parse(queryprint.Print(q)); (code == api.OK) != (length <= api.MaxText) {
			t.Error(length, code)
		}
	}
}

// checkRead expects that what a text is read as is printed so that it is read again.
func checkRead(t *testing.T, s string) bool {
	t.Helper()
	q, _, code := query.Parse(s)
	if code == api.OK {
		checkTrip(t, q)
	}
	return code == api.OK
}

func TestWhatIsReadIsPrinted(t *testing.T) {
	for s, isRead := range map[string]bool{
		"{a}": true, "query{a b:c,...f...{d}}": true, "query on($on:on=on){on(on:$on)@on(on:on)}fragment f on on{on}": true, "mutation($a:[[A!]]!=[{a:1}]$b:B){a}": true,
		"subscription s{a(x:\"\\/\\b\\u00fF\",y:[$v{k:$v}])...on T@d@e(z:-9223372036854775808){b}}#": true, "query($a:A=$b){a}": false, "{...on}": false, "{}": false, "": false,
	} {
		if checkRead(t, s) != isRead {
			t.Errorf("%q is not read as expected", s)
		}
	}
	random := rand.New(rand.NewSource(10))
	separators := []string{" ", "\t", "\n", "\r", ",", "#\n", "# { a }\"\r", " ,, \t"}
	words := strings.Fields(`query mutation subscription fragment on a A { } ( ) : = @ ... [ ] ! $ 1 -7 "x" "\u0041" null true |`)
	read := 0
	eachRight(func(_ source, q api.Query) {
		if t.Failed() {
			return
		}
		tokens, _, _ := token.Scan(queryprint.Print(q))
		if len(tokens) > 300 {
			return
		}
		for changes := range 3 {
			s := ""
			for _, x := range tokens {
				part := token.Print([]token.Token{x})
				if changes > 0 && random.Intn(len(tokens)) == 0 {
					part = words[random.Intn(len(words))]
				}
				s += separators[random.Intn(len(separators))] + part
			}
			if checkRead(t, s) {
				read++
			}
		}
	})
	if read < 2000 {
		t.Error("too few documents:", read)
	}
}
