package tests

import (
	"slices"
	"strings"
	"testing"

	"loop.example/g03016/impl"
)

// invalidOffers lists offers that are wrong in one field each.
func invalidOffers(t *testing.T) []impl.Offer {
	t.Helper()
	l := []impl.Offer{}
	for _, versions := range []string{
		"1.0 1.1 1.2 2.0 2.1", "0.0 0.1 0.2 0.3 0.4", "0.1 1.0 1.1 1.2 99.99",
		"1.0 1.0", "0.0 0.0", "1.0 1.1 1.1", "1.0 1.0 1.1", "1.0 1.1 1.2 1.2", "2.0 2.0 2.0 2.0",
		"1.1 1.0", "2.0 1.0", "2.0 1.9", "10.0 9.0", "1.10 1.9", "1.0 1.2 1.1", "1.0 1.1 2.0 1.2", "1.0 1.1 1.0", "2.1 2.0 1.2 1.1", "1.1 1.0 1.2 2.0",
		"-1.0", "0.-1", "100.0", "0.100", "1.0 100.0", "-1.0 1.0", "1.-1 1.0", "1.0 1.100", "1.0 1.1 2.100 3.0", "1.0 1.1 1.2 100.0",
		"9223372036854775807.0", "0.9223372036854775807", "-9223372036854775808.0 1.0", "1.-9223372036854775808 1.0",
	} {
		l = append(l, offerOf(t, versions, 63))
	}
	for _, f := range notFaces {
		l = append(l, offerOf(t, "", f), offerOf(t, "1.0", f), offerOf(t, "1.0 1.1 1.2 2.0", f))
	}
	return l
}

func TestOffersThatAreNotValid(t *testing.T) {
	for _, x := range invalidOffers(t) {
		if isValidOffer(x) {
			t.Fatalf("%v is a valid offer", x)
		}
		if impl.IsOffer(x) {
			t.Errorf("%v is told to be an offer", x)
		}
	}
}

func TestOffersOfEachFace(t *testing.T) {
	for f := range 64 {
		for _, versions := range []string{"", "0.0", "99.99", "1.0 1.1", "0.0 0.1 0.2", "1.0 1.1 1.2 2.0", "0.0 0.99 1.0 99.99", "1.99 2.0 9.0 10.0"} {
			if x := offerOf(t, versions, f); !impl.IsOffer(x) {
				t.Errorf("%v is told to be no offer", x)
			}
		}
	}
	if !impl.IsOffer(impl.Offer{}) || !impl.IsOffer(impl.Offer{Versions: []impl.Version{}, Face: 63}) {
		t.Error("an offer without versions is told to be none")
	}
}

// Every list of up to five of these versions is that of an offer exactly if it is valid and ascending, and not too long.
func TestOffersOfAllShortLists(t *testing.T) {
	listsOf(strings.Fields("0.0 0.99 1.0 1.1 2.0 100.0 1.-1"), 5, func(words []string) {
		x := offerOf(t, strings.Join(words, " "), 63)
		if got := impl.IsOffer(x); got != isValidOffer(x) {
			t.Errorf("IsOffer(%v) = %t", x, got)
		}
	})
}

func TestOffersOfEachVersion(t *testing.T) {
	for _, v := range append(allVersions(), notVersions()...) {
		x := impl.Offer{Versions: []impl.Version{v}, Face: 5}
		if got := impl.IsOffer(x); got != isValidVersion(v) {
			t.Errorf("IsOffer(%v) = %t", x, got)
		}
	}
}

func TestOffersOfVeryLongLists(t *testing.T) {
	for _, l := range [][]impl.Version{allVersions(), slices.Repeat(versionsOf(t, "1.0"), 1<<18)} {
		if impl.IsOffer(impl.Offer{Versions: l, Face: 63}) {
			t.Errorf("%d versions are told to be an offer", len(l))
		}
	}
}
