package tests

import (
	"slices"
	"strings"
	"testing"

	"loop.example/g03016/impl"
)

var spareVersion = impl.Version{Major: 77, Minor: 77}

// roomyOffer returns the offer with a marked version in the spare capacity of its list.
func roomyOffer(x impl.Offer) impl.Offer {
	x.Versions = append(slices.Clone(x.Versions), spareVersion)[:len(x.Versions)]
	return x
}

func checkRoomyOffer(t *testing.T, got, want impl.Offer) {
	t.Helper()
	if got.Face != want.Face || !slices.Equal(got.Versions, want.Versions) {
		t.Errorf("the argument %v has become %v", want, got)
	}
	if spare := got.Versions[:len(got.Versions)+1][len(got.Versions)]; spare != spareVersion {
		t.Errorf("the spare capacity holds %v", spare)
	}
}

func TestOffersAreNotChanged(t *testing.T) {
	offers := append(offersAmong(t, "0.99 1.0 1.1 1.2 2.0", 62), invalidOffers(t)...)
	other := offerOf(t, "1.0 1.1 1.2 2.0", 31)
	for _, x := range offers {
		first, second := roomyOffer(x), roomyOffer(other)
		impl.IsOffer(first)
		impl.Negotiate(first, second)
		impl.Negotiate(second, first)
		impl.Negotiate(first, first)
		checkRoomyOffer(t, first, x)
		checkRoomyOffer(t, second, other)
	}
}

func TestListsOfOffersAreNotChanged(t *testing.T) {
	for _, texts := range []string{"", "1.0 2.0", "1.0 2.0|1.0", "1.0|1.0 2.0|0.5 1.0", "2.0|1.0", "1.0|2.0 1.0"} {
		offers := []impl.Offer{}
		for _, text := range strings.Split(texts, "|") {
			offers = append(offers, offerOf(t, text, 63))
		}
		l := []impl.Offer{}
		for _, x := range offers {
			l = append(l, roomyOffer(x))
		}
		spare := impl.Offer{Versions: []impl.Version{spareVersion}, Face: 77}
		l = append(l, spare)[:len(offers)]
		impl.NegotiateAll(l)
		for i, x := range offers {
			checkRoomyOffer(t, l[i], x)
		}
		if got := l[:len(l)+1][len(l)]; got.Face != 77 || !slices.Equal(got.Versions, spare.Versions) {
			t.Errorf("the spare capacity holds %v", got)
		}
	}
}

func TestResultsOfChapter5StayTheSame(t *testing.T) {
	x := offerOf(t, "1.0 1.1", 63)
	d, ok := impl.NegotiateAll([]impl.Offer{x})
	x.Versions[1] = spareVersion
	if !ok || d != (impl.Deal{Version: versionOf(t, "1.1"), Face: 7}) {
		t.Error(d, ok)
	}
	text := strings.Clone("1.2")
	if v, ok := impl.ParseVersion(text); !ok || within(impl.FormatVersion(v), text) {
		t.Error(v, ok)
	}
	first, _ := impl.LeastVersion(63)
	first.Minor = 9
	if second, _ := impl.LeastVersion(63); second != versionOf(t, "2.1") {
		t.Error(second)
	}
}
