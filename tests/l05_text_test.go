package tests

import (
	"strconv"
	"strings"
	"testing"

	"loop.example/g03016/impl"
)

func TestEachVersionIsWrittenAndRead(t *testing.T) {
	for _, v := range allVersions() {
		text := strconv.Itoa(v.Major) + "." + strconv.Itoa(v.Minor)
		if got := impl.FormatVersion(v); got != text {
			t.Errorf("FormatVersion(%v) = %q", v, got)
		}
		if got, ok := impl.ParseVersion(text); !ok || got != v {
			t.Errorf("ParseVersion(%q) = %v, %t", text, got, ok)
		}
	}
}

func TestFormatVersionOfWhatIsNone(t *testing.T) {
	for _, v := range notVersions() {
		if got := impl.FormatVersion(v); got != "" {
			t.Errorf("FormatVersion(%v) = %q", v, got)
		}
	}
}

func checkNoVersion(t *testing.T, s string) {
	t.Helper()
	if v, ok := impl.ParseVersion(s); ok || v != (impl.Version{}) {
		t.Errorf("ParseVersion(%.40q) = %v, %t", s, v, ok)
	}
}

func TestParseVersionRefusesWhatIsNearlyOne(t *testing.T) {
	for _, s := range []string{
		"", " ", "0", "1", "12", "99", ".", "..", "1.", ".1", "0.", ".0", "-",
		"01.2", "1.02", "00.0", "0.00", "001.1", "1.001", "01.02", "1.00", "0.01",
		"+1.2", "1.+2", "-1.2", "1.-2", "-0.0", "0.-0", "-1.-2", "+0.0",
		"1.2.", ".1.2", "1..2", "1.2.3", "0.0.0", "1.2.0", "..1.2", "1.2..",
		"100.0", "0.100", "100.100", "999.0", "0.999", "1000.0", "0.1000", "99.100", "100.99", "256.0", "0.256",
		" 1.2", "1.2 ", "1 .2", "1. 2", "1 2", "\t1.2", "1.2\n", "\n1.2", "1.2\x00", "\x001.2", "1.\x002",
		"1,2", "1:2", "1/2", "1-2", "1_2", "v1.2", "1.2a", "a.b", "1.x", "x.1", "1.a2", "0x1.2", "1e1.2", "1.1e1",
		"1.2-1", "1.2+1", "1.2 1.3", "none", "\xff", "1.\xff", "1\u06602", "\u0661.2", "1\uff0e2",
	} {
		checkNoVersion(t, s)
	}
}

// These would be versions if a sum of 8, 16, 32 or 64 bits had wrapped around.
func TestParseVersionRefusesLargeNumbers(t *testing.T) {
	for _, n := range []string{"257", "65537", "4294967297", "18446744073709551617", "-18446744073709551615", "9223372036854775807", "-9223372036854775808"} {
		checkNoVersion(t, n+".1")
		checkNoVersion(t, "1."+n)
		checkNoVersion(t, n+"."+n)
	}
}

// Every text of up to six bytes over these letters is a version exactly if FormatVersion writes it.
func TestParseVersionOfAllShortTexts(t *testing.T) {
	for _, s := range textsUpTo("019.-+ a", 6) {
		if !versionForm.MatchString(s) {
			checkNoVersion(t, s)
		} else if v, ok := impl.ParseVersion(s); !ok || impl.FormatVersion(v) != s {
			t.Errorf("ParseVersion(%q) = %v, %t", s, v, ok)
		}
	}
}

func TestParseVersionOfVeryLongTexts(t *testing.T) {
	for _, part := range []string{"0", "1", "9", ".", "1.", ".1", "1.2", " ", "-", "a"} {
		long := strings.Repeat(part, 1<<18)
		for _, s := range []string{long, long + ".1", "1." + long, "1.2" + long, long + "1.2"} {
			checkNoVersion(t, s)
		}
	}
}
