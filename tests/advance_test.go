package tests

import (
	"math"
	"testing"

	"loop.example/g00803/impl"
)

func checkAdvance(t *testing.T, j impl.Jar, n int, want impl.Jar, wantCode int) {
	t.Helper()
	given := copiedJar(j)
	if got, code := impl.Advance(given, n); !equalJars(got, want) || code != wantCode || !equalJars(given, j) {
		t.Errorf("Advance(%s, %d) = %s, %d, want %s, %d", shownJar(j), n, shownJar(got), code, shownJar(want), wantCode)
	}
}

func TestP11TimePassesUpToMaxDecimal(t *testing.T) {
	for _, now := range []int{0, 1, 100, 999999999999, 1000000000000} {
		for _, n := range []int{0, 1, 5, 900000000000, 999999999999, 1000000000000} {
			for _, start := range []func() impl.Jar{emptyJar, someJar} {
				j := start()
				j.Now = max(now, 100)
				want := copiedJar(j)
				want.Now = min(j.Now+n, 1000000000000)
				checkAdvance(t, j, n, want, 0)
				if late, _ := impl.Advance(j, n); !impl.JarOK(late) {
					t.Errorf("Advance(%s, %d) is not valid", shownJar(j), n)
				}
			}
			want := impl.Jar{Limit: 1, PerParty: 1, Next: 1, Now: min(now+n, 1000000000000)}
			checkAdvance(t, impl.Jar{Limit: 1, PerParty: 1, Next: 1, Now: now}, n, want, 0)
		}
	}
}

func TestP1TimesOutOfRange(t *testing.T) {
	for _, n := range []int{-1, 1000000000001, 1 << 62, math.MaxInt, math.MinInt} {
		checkAdvance(t, someJar(), n, impl.Jar{}, impl.ErrRange)
		checkAdvance(t, impl.Jar{}, n, impl.Jar{}, impl.ErrBad)
	}
	for _, n := range []int{0, 1, 1000000000000} {
		checkAdvance(t, impl.Jar{}, n, impl.Jar{}, impl.ErrBad)
		checkAdvance(t, atLimits(someJar(), 2, 2), n, impl.Jar{}, impl.ErrBad)
	}
}
