package tests

import (
	"slices"
	"strings"
	"testing"

	"loop.example/g03016/impl"
)

func checkDeal(t *testing.T, l []impl.Offer) {
	t.Helper()
	want, wanted := dealOf(l)
	if d, ok := impl.NegotiateAll(l); d != want || ok != wanted {
		t.Errorf("NegotiateAll(%v) = %v, %t, want %v, %t", l, d, ok, want, wanted)
	}
	if len(l) == 2 {
		if d, ok := impl.Negotiate(l[0], l[1]); d != want || ok != wanted {
			t.Errorf("Negotiate(%v, %v) = %v, %t, want %v, %t", l[0], l[1], d, ok, want, wanted)
		}
	}
}

// offersAmong lists offers of each set of up to four of these versions, which are ascending.
func offersAmong(t *testing.T, versions string, face int) []impl.Offer {
	t.Helper()
	all := versionsOf(t, versions)
	l := []impl.Offer{}
	for picks := range 1 << len(all) {
		x := impl.Offer{Versions: []impl.Version{}, Face: face}
		for i, v := range all {
			if picks>>i%2 == 1 {
				x.Versions = append(x.Versions, v)
			}
		}
		if len(x.Versions) <= 4 {
			l = append(l, x)
		}
	}
	return l
}

// The common versions are in each place of both lists, one or several, or there are none.
func TestDealsOfAllPairsOfLists(t *testing.T) {
	offers := offersAmong(t, "0.99 1.0 1.1 1.2 2.0 2.1 10.0", 63)
	for _, a := range offers {
		for _, b := range offers {
			checkDeal(t, []impl.Offer{a, b})
			a.Face, b.Face = 43, 62
			checkDeal(t, []impl.Offer{a, b})
		}
	}
}

func TestDealsOfAllPairsOfFaces(t *testing.T) {
	for _, version := range strings.Fields("0.0 0.99 1.0 1.1 1.2 1.99 2.0 2.1 99.99") {
		for f := range 64 {
			for g := range 64 {
				checkDeal(t, []impl.Offer{offerOf(t, version, f), offerOf(t, version, g)})
			}
		}
	}
}

func TestDealsOfThreeAndFourOffers(t *testing.T) {
	offers := offersAmong(t, "0.0 1.0 1.1 2.0 99.99", 63)
	for _, a := range offers {
		for _, b := range offers {
			for _, c := range offers {
				b.Face, c.Face = 61, 31
				checkDeal(t, []impl.Offer{a, b, c})
				checkDeal(t, []impl.Offer{c, a, b, a})
			}
		}
	}
}

func TestDealsOfOneOffer(t *testing.T) {
	for f := range 64 {
		for _, x := range offersAmong(t, "0.0 0.99 1.0 1.1 1.2 2.0 2.1", f) {
			checkDeal(t, []impl.Offer{x})
			checkDeal(t, []impl.Offer{x, x})
		}
	}
}

func TestFixedDeals(t *testing.T) {
	for _, c := range []struct {
		a, b    string
		f, g    int
		version string
		face    int
	}{
		{"1.0 1.1 2.0", "1.0 1.1 3.0", 63, 22, "1.1", 6},
		{"1.0 1.1 2.0", "1.0 1.1 3.0", 63, 63, "1.1", 7},
		{"0.0", "0.0", 63, 63, "0.0", 0},
		{"99.99", "99.99", 63, 63, "99.99", 63},
		{"99.99", "0.0 99.99", 0, 63, "99.99", 0},
		{"1.0 1.1 1.2 2.0", "1.0 1.1 1.2 2.0", 63, 63, "2.0", 31},
		{"1.0 1.1 1.2 2.0", "0.7 0.8 0.9 1.0", 63, 63, "1.0", 3},
		{"0.7 0.8 0.9 1.0", "1.0 1.1 1.2 2.0", 48, 63, "1.0", 0},
		{"0.7 1.2 1.3 1.4", "1.1 1.2 3.0 4.0", 63, 63, "1.2", 15},
		{"1.9 1.10", "1.9 1.10", 63, 63, "1.10", 15},
		{"9.0 10.0", "9.0 10.0", 5, 6, "10.0", 4},
		{"2.1", "2.1", 33, 62, "2.1", 32},
		{"2.0", "2.0", 33, 62, "2.0", 0},
	} {
		want := impl.Deal{Version: versionOf(t, c.version), Face: c.face}
		a, b := offerOf(t, c.a, c.f), offerOf(t, c.b, c.g)
		if d, ok := impl.Negotiate(a, b); !ok || d != want {
			t.Errorf("the deal of %v and %v is %v, %t", a, b, d, ok)
		}
		if d, ok := impl.NegotiateAll([]impl.Offer{b, a}); !ok || d != want {
			t.Errorf("the deal of %v and %v is %v, %t", b, a, d, ok)
		}
	}
}

func checkNoDeal(t *testing.T, l ...impl.Offer) {
	t.Helper()
	if d, ok := impl.NegotiateAll(l); ok || d != (impl.Deal{}) {
		t.Errorf("NegotiateAll(%v) = %v, %t", l, d, ok)
	}
	if len(l) == 2 {
		if d, ok := impl.Negotiate(l[0], l[1]); ok || d != (impl.Deal{}) {
			t.Errorf("Negotiate(%v, %v) = %v, %t", l[0], l[1], d, ok)
		}
	}
}

func TestNoDeal(t *testing.T) {
	checkNoDeal(t)
	checkNoDeal(t, []impl.Offer{}...)
	checkNoDeal(t, impl.Offer{})
	checkNoDeal(t, impl.Offer{}, impl.Offer{})
	checkNoDeal(t, offerOf(t, "", 63))
	for _, pair := range []string{"1.0|", "|1.0", "1.0|1.1", "1.0|2.0", "1.0 1.2 2.0|1.1 1.3 2.1", "0.0|0.1", "0.0|1.0", "1.2 2.1|2.2", "1.0 1.1 1.2 1.3|1.4 1.5 1.6 1.7"} {
		a, b, _ := strings.Cut(pair, "|")
		checkNoDeal(t, offerOf(t, a, 63), offerOf(t, b, 63))
	}
	// Each two of these have a common version, but not all three.
	checkNoDeal(t, offerOf(t, "1.0 1.1", 63), offerOf(t, "1.1 1.2", 63), offerOf(t, "1.0 1.2", 63))
}

// What is not valid is refused in each place, also where the others have a deal, or none without it.
func TestNoDealWithOffersThatAreNotValid(t *testing.T) {
	good := offerOf(t, "1.0 1.1 1.2 2.0", 63)
	for _, bad := range invalidOffers(t) {
		checkNoDeal(t, bad)
		checkNoDeal(t, bad, bad)
		for _, other := range []impl.Offer{good, offerOf(t, "2.0", 63), offerOf(t, "1.0", 0), offerOf(t, "", 63), {}} {
			checkNoDeal(t, bad, other)
			checkNoDeal(t, other, bad)
			checkNoDeal(t, bad, good, other)
			checkNoDeal(t, good, bad, other)
			checkNoDeal(t, good, other, bad)
		}
	}
}

// ordersOf gives each order of the offers to use.
func ordersOf(l []impl.Offer, use func(l []impl.Offer)) {
	var extend func(done, rest []impl.Offer)
	extend = func(done, rest []impl.Offer) {
		if len(rest) == 0 {
			use(done)
		}
		for i, x := range rest {
			extend(append(slices.Clone(done), x), slices.Delete(slices.Clone(rest), i, i+1))
		}
	}
	extend([]impl.Offer{}, l)
}

func TestDealsInEachOrder(t *testing.T) {
	offers := []impl.Offer{
		offerOf(t, "0.5 1.0 1.2 2.0", 63),
		offerOf(t, "1.0 1.2", 61),
		offerOf(t, "1.1 1.2 2.0 3.0", 47),
		offerOf(t, "0.1 0.2 1.0 1.2", 29),
	}
	for i, want := range []impl.Deal{
		{Version: versionOf(t, "2.0"), Face: 31},
		{Version: versionOf(t, "1.2"), Face: 13},
		{Version: versionOf(t, "1.2"), Face: 13},
		{Version: versionOf(t, "1.2"), Face: 13},
	} {
		ordersOf(offers[:i+1], func(l []impl.Offer) {
			for i := range l {
				twice := append(slices.Clone(l), l[i])
				for _, list := range [][]impl.Offer{l, twice, slices.Insert(slices.Clone(l), i, l[i])} {
					if d, ok := impl.NegotiateAll(list); !ok || d != want {
						t.Errorf("NegotiateAll(%v) = %v, %t", list, d, ok)
					}
				}
			}
		})
	}
}

func TestDealsOfVeryManyOffers(t *testing.T) {
	l := slices.Repeat([]impl.Offer{offerOf(t, "1.0 1.1 2.0", 63), offerOf(t, "0.9 1.1", 38)}, 1<<17)
	checkDeal(t, l)
	if d, ok := impl.NegotiateAll(l); !ok || d != (impl.Deal{Version: versionOf(t, "1.1"), Face: 6}) {
		t.Error(d, ok)
	}
	checkNoDeal(t, append(l, offerOf(t, "1.0", 63))...)
	checkNoDeal(t, append(l, offerOf(t, "1.1", 64))...)
	checkNoDeal(t, slices.Repeat([]impl.Offer{{}}, 1<<18)...)
}
