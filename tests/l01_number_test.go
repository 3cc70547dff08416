package tests

import (
	"math"
	"strconv"
	"strings"
	"testing"

	"loop.example/g03016/impl"
)

func checkFormat(t *testing.T, n int) {
	t.Helper()
	if got := impl.FormatNumber(n); got != strconv.Itoa(n) {
		t.Errorf("FormatNumber(%d) = %q", n, got)
	}
}

func TestFormatNumberOfFixedInts(t *testing.T) {
	for n, want := range map[int]string{
		0:             "0",
		7:             "7",
		10:            "10",
		-1:            "-1",
		-120:          "-120",
		999:           "999",
		1000:          "1000",
		math.MaxInt:   "9223372036854775807",
		math.MinInt:   "-9223372036854775808",
		math.MinInt32: "-2147483648",
	} {
		if got := impl.FormatNumber(n); got != want {
			t.Errorf("FormatNumber(%d) = %q, want %q", n, got, want)
		}
	}
}

func TestFormatNumberOfManyInts(t *testing.T) {
	for n := -12000; n <= 12000; n++ {
		checkFormat(t, n)
	}
	for power := 1; power <= math.MaxInt/10; power *= 10 {
		for _, n := range []int{power - 1, power, power + 1} {
			checkFormat(t, n)
			checkFormat(t, -n)
		}
	}
	for shift := range 64 {
		for _, n := range []int{1<<shift - 1, 1 << shift, 1<<shift + 1} {
			checkFormat(t, n)
			checkFormat(t, -n)
		}
	}
}

func TestParseNumberReadsEachNumber(t *testing.T) {
	if impl.MaxNumber != 999 {
		t.Fatal(impl.MaxNumber)
	}
	for n := 0; n <= impl.MaxNumber; n++ {
		if got, ok := impl.ParseNumber(impl.FormatNumber(n)); !ok || got != n {
			t.Errorf("number %d is read as %d, %t", n, got, ok)
		}
	}
}

func checkNoNumber(t *testing.T, s string) {
	t.Helper()
	if n, ok := impl.ParseNumber(s); ok || n != 0 {
		t.Errorf("ParseNumber(%.40q) = %d, %t", s, n, ok)
	}
}

func TestParseNumberRefusesWhatIsNearlyOne(t *testing.T) {
	for _, s := range []string{
		"", " ", "00", "000", "01", "007", "0999", "00000000000000000001",
		"-", "+", "-0", "+0", "-1", "+1", "--1", "1-", "1+",
		" 1", "1 ", "1 2", "\t1", "1\n", "\n", "1\x00", "\x001",
		"1.0", "1.", ".1", "1e2", "0x1", "1_0", "1,0", "a", "1a", "a1", "12b",
		"1000", "9990", "9999", "10000", "1001",
		"/", ":", "1/", "1:", "9:", "\xff", "1\xff", "\u0661", "\uff11", "1\u0661",
	} {
		checkNoNumber(t, s)
	}
}

func TestParseNumberRefusesLargeIntegers(t *testing.T) {
	for _, n := range []int{impl.MaxNumber + 1, math.MaxInt, math.MinInt, 1 << 32, 1<<32 + 5, -5} {
		checkNoNumber(t, impl.FormatNumber(n))
	}
	// These would be small numbers if a sum of 16, 32 or 64 bits had wrapped around.
	for _, s := range []string{"65536", "65541", "4294967301", "18446744073709551616", "18446744073709551621", "36893488147419103239"} {
		checkNoNumber(t, s)
	}
}

func TestParseNumberOfVeryLongTexts(t *testing.T) {
	for _, size := range []int{4, 19, 20, 21, 64, 1000, 1 << 20} {
		for _, digit := range []string{"0", "1", "5", "9"} {
			checkNoNumber(t, strings.Repeat(digit, size))
		}
		checkNoNumber(t, strings.Repeat("0", size)+"1")
		checkNoNumber(t, "1"+strings.Repeat("0", size))
		checkNoNumber(t, "1"+strings.Repeat(" ", size))
	}
}

// Every text of up to four bytes over digits and the bytes beside them is a number exactly if FormatNumber writes it.
func TestParseNumberOfAllShortTexts(t *testing.T) {
	written := map[string]int{}
	for n := range 1000 {
		written[strconv.Itoa(n)] = n
	}
	for _, s := range textsUpTo("0123456789-+ /:a", 4) {
		want, wanted := written[s]
		if n, ok := impl.ParseNumber(s); ok != wanted || n != want {
			t.Errorf("ParseNumber(%q) = %d, %t", s, n, ok)
		}
	}
}
