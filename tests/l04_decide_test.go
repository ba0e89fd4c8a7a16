package tests

import (
	"math"
	"math/rand"
	"slices"
	"testing"

	"loop.example/g03319/impl"
)

func checkDecide(t *testing.T, p impl.Policy, s impl.Screen, now, verdict int, want impl.Screen) {
	t.Helper()
	if got, ok := impl.Decide(p, s, now, verdict); got != want || !ok {
		t.Errorf("Decide(%v, %v, %d, %d) = %v, %v; want %v", p, s, now, verdict, got, ok, want)
	}
}

func checkRefused(t *testing.T, p impl.Policy, s impl.Screen, now, verdict int) {
	t.Helper()
	if got, ok := impl.Decide(p, s, now, verdict); got != s || ok {
		t.Errorf("Decide(%v, %v, %d, %d) = %v, %v", p, s, now, verdict, got, ok)
	}
}

func TestDecideAtEachLevel(t *testing.T) {
	p := waits(2, 5, 9)
	for level := 1; level <= 3; level++ {
		for _, now := range []int{10, 11, 12} {
			checkDecide(t, p, at(level, 10), now, impl.VdClear, settled(level, 10, impl.VdClear))
			checkDecide(t, p, at(level, 10), now, impl.VdAlarm, at(level+1, now))
			checkDecide(t, p, at(level, 10), now, impl.VdOpen, at(level+1, now))
		}
	}
	for _, now := range []int{10, 11, 500, 100000} {
		checkDecide(t, p, at(4, 10), now, impl.VdClear, settled(4, 10, impl.VdClear))
		checkDecide(t, p, at(4, 10), now, impl.VdAlarm, settled(4, 10, impl.VdAlarm))
		checkRefused(t, p, at(4, 10), now, impl.VdOpen)
	}
}

func TestDecideAfterWaits(t *testing.T) {
	p := waits(2, 5, 9)
	checkDecide(t, p, at(1, 10), 12, impl.VdAlarm, at(2, 12))
	checkDecide(t, p, at(1, 10), 13, impl.VdAlarm, at(3, 13))
	checkDecide(t, p, at(1, 10), 13, impl.VdOpen, at(3, 13))
	checkDecide(t, p, at(1, 10), 13, impl.VdClear, settled(2, 12, impl.VdClear))
	checkDecide(t, p, at(1, 10), 17, impl.VdOpen, at(3, 17))
	checkDecide(t, p, at(1, 10), 18, impl.VdOpen, at(4, 18))
	checkDecide(t, p, at(1, 10), 18, impl.VdClear, settled(3, 17, impl.VdClear))
	checkDecide(t, p, at(1, 10), 26, impl.VdAlarm, at(4, 26))
	checkDecide(t, p, at(1, 10), 27, impl.VdAlarm, settled(4, 26, impl.VdAlarm))
	checkDecide(t, p, at(1, 10), 27, impl.VdClear, settled(4, 26, impl.VdClear))
	checkRefused(t, p, at(1, 10), 27, impl.VdOpen)
	checkRefused(t, p, at(1, 10), 100000, impl.VdOpen)
	checkDecide(t, p, at(3, 10), 19, impl.VdOpen, at(4, 19))
	checkRefused(t, p, at(3, 10), 20, impl.VdOpen)
	checkDecide(t, p, at(1, 100000), 100000, impl.VdOpen, at(2, 100000))
	checkDecide(t, p, at(1, 0), 0, impl.VdAlarm, at(2, 0))
}

func TestDecideBeforeSince(t *testing.T) {
	p := waits(2, 5, 9)
	for level := 1; level <= 4; level++ {
		for verdict := -1; verdict <= 3; verdict++ {
			for _, now := range []int{0, 1, 8, 9} {
				checkRefused(t, p, at(level, 10), now, verdict)
			}
			checkRefused(t, p, at(level, 100000), 99999, verdict)
		}
		checkDecide(t, p, at(level, 10), 10, impl.VdClear, settled(level, 10, impl.VdClear))
	}
}

func TestDecideUnknownVerdicts(t *testing.T) {
	for _, s := range smallScreens() {
		for _, verdict := range []int{math.MinInt, -2, -1, 3, 4, math.MaxInt} {
			for _, now := range []int{s.Since, 100000} {
				checkRefused(t, waits(2, 5, 9), s, now, verdict)
			}
		}
	}
}

func TestSettledScreensTakeNoDecision(t *testing.T) {
	for _, s := range smallScreens() {
		if s.Verdict == impl.VdOpen {
			continue
		}
		for verdict := -1; verdict <= 3; verdict++ {
			for _, now := range []int{0, s.Since, min(s.Since+1, 100000), 100000} {
				checkRefused(t, waits(1, 1, 1), s, now, verdict)
			}
		}
	}
}

func TestDecideOfInvalidArguments(t *testing.T) {
	onInvalidArguments(func(p impl.Policy, s impl.Screen, now int) {
		for verdict := -1; verdict <= 3; verdict++ {
			checkRefused(t, p, s, now, verdict)
		}
	})
}

// plainDecide looks the result up by the level and the verdict.
func plainDecide(p impl.Policy, s impl.Screen, now, verdict int) (impl.Screen, bool) {
	e := plainElapse(p, s, now)
	results := map[[2]int]impl.Screen{{4, 1}: settled(4, e.Since, 1), {4, 2}: settled(4, e.Since, 2)}
	for level := 1; level <= 3; level++ {
		results[[2]int{level, 0}] = at(level+1, now)
		results[[2]int{level, 1}] = settled(level, e.Since, 1)
		results[[2]int{level, 2}] = at(level+1, now)
	}
	result, ok := results[[2]int{e.Level, verdict}]
	if !ok || e.Verdict != 0 || now < e.Since {
		return s, false
	}
	return result, true
}

func checkAgainstPlainDecide(t *testing.T, p impl.Policy, s impl.Screen, now, verdict int) {
	t.Helper()
	want, wantOk := plainDecide(p, s, now, verdict)
	if got, ok := impl.Decide(p, s, now, verdict); got != want || ok != wantOk {
		t.Errorf("Decide(%v, %v, %d, %d) = %v, %v; want %v, %v", p, s, now, verdict, got, ok, want, wantOk)
	}
}

func TestDecideOfSmallAndRandomScreens(t *testing.T) {
	for _, p := range smallPolicies() {
		for _, s := range smallScreens() {
			for span := -2; span <= 12; span++ {
				for verdict := -1; verdict <= 3; verdict++ {
					if now := s.Since + span; now >= 0 && now <= 100000 {
						checkAgainstPlainDecide(t, p, s, now, verdict)
					}
				}
			}
		}
	}
	r := rand.New(rand.NewSource(11))
	for range 3000 {
		p, s, now := randomCase(r)
		checkAgainstPlainDecide(t, p, s, now, r.Intn(3))
	}
}

// checkTimeAlone looks at the screen at one time and, from there, at a later one.
func checkTimeAlone(t *testing.T, p impl.Policy, s impl.Screen, now, later int) {
	t.Helper()
	first := impl.Elapse(p, s, now)
	if !impl.ScreenOk(first) || first.Verdict != s.Verdict || first.Level < s.Level || first.Since < s.Since {
		t.Errorf("by time alone %v becomes %v at %d by %v", s, first, now, p)
	}
	if got, want := impl.Elapse(p, first, later), impl.Elapse(p, s, later); got != want {
		t.Errorf("%v is %v at %d if one looks at it at %d, and %v if not", s, got, later, now, want)
	}
}

func TestTimeAloneMakesNoBagClearAndTakesNoneBack(t *testing.T) {
	for _, p := range smallPolicies() {
		for _, s := range smallScreens() {
			for _, now := range []int{0, s.Since, s.Since + 2, s.Since + 3, s.Since + 5, s.Since + 8, 100000} {
				for _, span := range []int{0, 1, 3, 5001} {
					checkTimeAlone(t, p, s, min(now, 100000), min(now+span, 100000))
				}
			}
		}
	}
	r := rand.New(rand.NewSource(12))
	for range 3000 {
		p, s, now := randomCase(r)
		checkTimeAlone(t, p, s, now, now+r.Intn(impl.MaxTick-now+1))
	}
}

// TestBagsBecomeClearByDecisionsThatSaySo leads bags through the levels by random decisions.
func TestBagsBecomeClearByDecisionsThatSaySo(t *testing.T) {
	r := rand.New(rand.NewSource(13))
	ends := []int{0, 0, 0}
	for range 3000 {
		p := waits(1+r.Intn(9), 1+r.Intn(9), 1+r.Intn(9))
		s, now := at(1, r.Intn(5)), 0
		for range 5 {
			now += r.Intn(9)
			verdict := []int{impl.VdOpen, impl.VdOpen, impl.VdOpen, impl.VdAlarm, impl.VdAlarm, impl.VdClear}[r.Intn(6)]
			next, ok := impl.Decide(p, s, now, verdict)
			if !impl.ScreenOk(next) || !ok && next != s {
				t.Errorf("Decide(%v, %v, %d, %d) = %v, %v", p, s, now, verdict, next, ok)
			}
			if next.Level < s.Level || (s.Verdict != next.Verdict) != (ok && next.Verdict != impl.VdOpen) {
				t.Errorf("Decide(%v, %v, %d, %d) = %v, %v", p, s, now, verdict, next, ok)
			}
			if isClear := next.Verdict == impl.VdClear; isClear != (s.Verdict == impl.VdClear || ok && verdict == impl.VdClear) {
				t.Errorf("Decide(%v, %v, %d, %d) = %v, %v", p, s, now, verdict, next, ok)
			}
			s = next
		}
		ends[s.Verdict]++
	}
	if slices.Min(ends) < 50 {
		t.Errorf("bags that wait, are clear and have the alarm: %v", ends)
	}
}

func TestPoliciesAreNotChanged(t *testing.T) {
	policies := smallPolicies()
	for _, p := range invalidPolicies() {
		policies = append(policies, p)
	}
	for _, p := range policies {
		whole := slices.Concat(p.Wait, []int{901, 902})
		kept := slices.Clone(whole)
		arg := impl.Policy{Wait: whole[:len(p.Wait)]}
		if impl.PolicyOk(arg) != impl.PolicyOk(p) {
			t.Errorf("PolicyOk(%v) depends on what is behind the waits", p)
		}
		for _, s := range smallScreens() {
			for _, now := range someTimes() {
				impl.Elapse(arg, s, now)
				impl.Decide(arg, s, now, now%3)
			}
			impl.HandTime(arg, s)
		}
		if !slices.Equal(whole, kept) {
			t.Errorf("the waits %v are %v after the calls", kept, whole)
		}
	}
}
