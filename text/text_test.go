package text

import (
	"math"
	"math/big"
	"regexp"
	"strings"
	"testing"

	"supergraph/api"
)

// eachString calls visit for every string of at most most bytes of alphabet.
func eachString(alphabet string, most int, visit func(s string)) {
	visit("")
	if most == 0 {
		return
	}
	for i := range len(alphabet) {
		first := alphabet[i : i+1]
		eachString(alphabet, most-1, func(rest string) { visit(first + rest) })
	}
}

// P1.1

func TestNameOfOneByte(t *testing.T) {
	const letters = "ABCDEFGHIJKLMNOPQRSTUVWXYZabcdefghijklmnopqrstuvwxyz_"
	for c := range 256 {
		s := string([]byte{byte(c)})
		if got, want := Name(s), strings.Contains(letters, s); got != want {
			t.Errorf("Name(%q) is %v", s, got)
		}
	}
}

func TestNameWithEveryByte(t *testing.T) {
	const parts = "0123456789ABCDEFGHIJKLMNOPQRSTUVWXYZabcdefghijklmnopqrstuvwxyz_"
	for c := range 256 {
		part := string([]byte{byte(c)})
		want := strings.Contains(parts, part)
		for _, s := range []string{"a" + part, "_" + part + "z", strings.Repeat("x", 63) + part} {
			if got := Name(s); got != want {
				t.Errorf("Name(%q) is %v", s, got)
			}
		}
	}
}

func TestNameLength(t *testing.T) {
	for n := range 200 {
		if got, want := Name(strings.Repeat("x", n)), n >= 1 && n <= 64; got != want {
			t.Errorf("Name of %d bytes is %v", n, got)
		}
	}
	if Name(strings.Repeat("_", 1<<20)) {
		t.Error("a very long name")
	}
}

func TestNameExamples(t *testing.T) {
	for _, s := range []string{"_a1", "_", "__", "__typename", "true", "null", "on", "Z9", "_0"} {
		if !Name(s) {
			t.Errorf("Name(%q) is false", s)
		}
	}
	for _, s := range []string{"", "1a", "0", "a-b", "a b", " a", "a ", "a\n", "é", "aé", "a\x00", "$a", "@a", "a.b"} {
		if Name(s) {
			t.Errorf("Name(%q) is true", s)
		}
	}
}

func TestReserved(t *testing.T) {
	pattern := regexp.MustCompile(`^__`)
	eachString("_a1 -\xff", 5, func(s string) {
		if got, want := Reserved(s), pattern.MatchString(s); got != want {
			t.Errorf("Reserved(%q) is %v", s, got)
		}
	})
}

func TestReservedNeedsNoName(t *testing.T) {
	for _, s := range []string{"__key", "__", "__1", "__ !", "__" + strings.Repeat("x", 100), "__\xff"} {
		if !Reserved(s) {
			t.Errorf("Reserved(%q) is false", s)
		}
	}
	for _, s := range []string{"", "_", "_key", "a__", " __", "_a_"} {
		if Reserved(s) {
			t.Errorf("Reserved(%q) is true", s)
		}
	}
}

// P1.5

func TestDecimal(t *testing.T) {
	numbers := map[int]string{
		0: "0", 1: "1", -1: "-1", 9: "9", 10: "10", -12: "-12", 100: "100", -1000: "-1000",
		math.MaxInt32: "2147483647", math.MinInt32: "-2147483648",
		math.MaxInt64: "9223372036854775807", math.MinInt64: "-9223372036854775808",
	}
	for n, want := range numbers {
		if got := Decimal(n); got != want {
			t.Errorf("Decimal(%d) is %q", n, got)
		}
	}
}

func checkRoundTrip(t *testing.T, n int) {
	t.Helper()
	s := Decimal(n)
	if s != big.NewInt(int64(n)).String() {
		t.Errorf("Decimal(%d) is %q", n, s)
	}
	if got, err := Number(s); got != n || err != api.OK {
		t.Errorf("Number(%q) is %d, %d", s, got, err)
	}
}

func TestNumberOfDecimal(t *testing.T) {
	for n := -20000; n <= 20000; n++ {
		checkRoundTrip(t, n)
	}
	for shift := range 64 {
		for delta := -2; delta <= 2; delta++ {
			checkRoundTrip(t, 1<<shift+delta)
			checkRoundTrip(t, -1<<shift+delta)
		}
	}
	for power := 1; power <= math.MaxInt/10; power *= 10 {
		checkRoundTrip(t, power-1)
		checkRoundTrip(t, -power)
	}
}

func TestNumberOfShortStrings(t *testing.T) {
	pattern := regexp.MustCompile(`^(0|-?[1-9][0-9]*)$`)
	eachString("-+01259 a_.x\x00\xff\n", 4, func(s string) {
		n, err := Number(s)
		if !pattern.MatchString(s) {
			if n != 0 || err != api.ErrForm {
				t.Errorf("Number(%q) is %d, %d", s, n, err)
			}
			return
		}
		if err != api.OK || Decimal(n) != s {
			t.Errorf("Number(%q) is %d, %d", s, n, err)
		}
	})
}

func TestNumberMalformed(t *testing.T) {
	tests := []string{
		"", "-", "-0", "00", "-00", "012", "-012", "+1", "--1", "1-", "1a", "a1", "0x10", "1_000", "1e3", "1.0", " 1", "1 ",
		"1\n", "\x001", "\u0661", "\uff11", "0" + strings.Repeat("9", 100), strings.Repeat("9", 100) + "a", strings.Repeat("0", 100),
	}
	for _, s := range tests {
		if n, err := Number(s); n != 0 || err != api.ErrForm {
			t.Errorf("Number(%q) is %d, %d", s, n, err)
		}
	}
}

func TestNumberTooLarge(t *testing.T) {
	tests := []string{
		"9223372036854775808", "-9223372036854775809", "9223372036854775810", "18446744073709551615", "18446744073709551616",
		"18446744073709551617", "-18446744073709551616", "10000000000000000000", "-10000000000000000000",
		"36893488147419103233", "1" + strings.Repeat("0", 100), "-1" + strings.Repeat("0", 100), strings.Repeat("9", 1<<20),
	}
	for _, s := range tests {
		if n, err := Number(s); n != 0 || err != api.ErrSize {
			t.Errorf("Number of %d bytes is %d, %d", len(s), n, err)
		}
	}
}

func TestNumberNearTheLimits(t *testing.T) {
	for delta := int64(-1000); delta <= 1000; delta++ {
		for _, limit := range []int64{math.MaxInt64, math.MinInt64} {
			exact := new(big.Int).Add(big.NewInt(limit), big.NewInt(delta))
			n, err := Number(exact.String())
			if exact.IsInt64() {
				if int64(n) != exact.Int64() || err != api.OK {
					t.Errorf("Number(%v) is %d, %d", exact, n, err)
				}
			} else if n != 0 || err != api.ErrSize {
				t.Errorf("Number(%v) is %d, %d", exact, n, err)
			}
		}
	}
}
