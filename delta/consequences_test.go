package delta_test

import (
	"math/rand/v2"
	"slices"
	"strings"
	"testing"

	"siding/api"
	"siding/delta"
)

// P11.5

// leastCost is the least cost of all deltas, found from the beginning of a target to its end.
func leastCost(base, target string) int {
	costs := make([]int, len(target)+1)
	for to := 1; to <= len(target); to++ {
		costs[to] = costs[to-1] + 2
		for from := to - 1; from >= 0; from-- {
			costs[to] = min(costs[to], costs[from]+1+to-from)
		}
		for from := to - 1; from >= 0 && strings.Contains(base, target[from:to]); from-- {
			costs[to] = min(costs[to], costs[from]+3)
		}
	}
	return costs[len(target)]
}

// wantLeast fails unless the least delta is a delta, gives the target, and costs no more than any other one.
func wantLeast(t *testing.T, what, base, target string) {
	t.Helper()
	l, e := delta.Make([]byte(base), []byte(target))
	if e != api.OK {
		t.Fatal(what, brief(base), brief(target), e)
	}
	wantCheck(t, what, l, len(base), api.OK)
	wantApply(t, what, base, l, target, api.OK)
	cost, _ := delta.Cost(l)
	if cost != leastCost(base, target) || cost > len(target)+1 || strings.Contains(base, target) && cost > 3 || len(l) >= 200 {
		t.Errorf("%s: %s of %s costs %d with %s", what, brief(target), brief(base), cost, brief(l))
	}
	b, e := delta.Encode(l)
	if e != api.OK {
		t.Errorf("%s: encode %s: %d", what, brief(l), e)
	}
	wantDecode(t, what, string(b), l, api.OK)
}

func TestLeastOfShortTargets(t *testing.T) {
	for _, base := range words("ab", 5) {
		for _, target := range words("abc", 5) {
			wantLeast(t, "short", base, target)
		}
	}
}

func TestLeastOfRandomTargets(t *testing.T) {
	r := rand.New(rand.NewPCG(11, 7))
	for range 400 {
		letters := 1 + r.IntN(26)
		base := randomText(r, letters, r.IntN(301))
		wantLeast(t, "random", base, randomText(r, letters, r.IntN(301)))
		wantLeast(t, "pieced", base, pieced(r, base, letters, r.IntN(301)))
		from := r.IntN(len(base) + 1)
		wantLeast(t, "a part", base, base[from:from+r.IntN(len(base)-from+1)])
		wantLeast(t, "a part moved", base, base[from:]+base[:from])
	}
}

// No delta costs less than the least one, whatever parts it has.
func TestNoDeltaCostsLess(t *testing.T) {
	r := rand.New(rand.NewPCG(11, 8))
	for range 2000 {
		base := randomText(r, 1+r.IntN(5), 1+r.IntN(100))
		l := randomDelta(r, base, 12)
		target := applied(base, l)
		if len(target) > 300 {
			continue
		}
		least, e := delta.Make([]byte(base), []byte(target))
		if e != api.OK || less(l, least) {
			t.Errorf("%s of %s: %s, but %s is less: %d", brief(target), brief(base), brief(least), brief(l), e)
		}
		wantApply(t, "the given one", base, l, target, api.OK)
		wantApply(t, "the least one", base, least, target, api.OK)
	}
}

// A part of the base is one copy, or an insert of one byte.
func TestPartsOfTheBase(t *testing.T) {
	for _, base := range []string{text(300), strings.Repeat("a", 300), strings.Repeat("ab", 150), "abracadabra"} {
		for from := 0; from < len(base); from += 1 + from/9 {
			for to := from + 1; to <= len(base); to += 1 + (to-from)/9 {
				part := base[from:to]
				want := parts{copied(strings.Index(base, part), len(part))}
				if len(part) == 1 {
					want = parts{inserted(part)}
				}
				wantMake(t, "a part", base, part, want)
			}
		}
	}
}

// What a byte more or less makes of the cost.
func TestCostOfEnds(t *testing.T) {
	r := rand.New(rand.NewPCG(11, 9))
	for range 100 {
		base := randomText(r, 4, r.IntN(60))
		target := pieced(r, base, 5, r.IntN(60))
		last := 0
		for n := range len(target) + 1 {
			l, _ := delta.Make([]byte(base), []byte(target[:n]))
			cost, e := delta.Cost(l)
			if e != api.OK || cost < last || cost > last+2 {
				t.Error(brief(base), brief(target[:n]), cost, last, e)
			}
			last = cost
		}
	}
}

// Decode of Encode is the delta, and different deltas have different bytes.
func TestDecodeOfEncode(t *testing.T) {
	r := rand.New(rand.NewPCG(11, 10))
	seen := map[string]parts{}
	for range 3000 {
		l := randomDelta(r, text(1+r.IntN(5)), 4)
		b, e := delta.Encode(l)
		if e != api.OK {
			t.Fatal(brief(l), e)
		}
		wantDecode(t, "random", string(b), l, api.OK)
		if other, found := seen[string(b)]; found && !same(other, l) {
			t.Error(brief(l), brief(other))
		}
		seen[string(b)] = l
	}
	for what, p := range goodParts() {
		wantDelta(t, what, slices.Repeat(parts{p}, 2))
	}
}
