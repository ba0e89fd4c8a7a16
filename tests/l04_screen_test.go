package tests

import (
	"math"
	"math/rand"
	"slices"
	"testing"

	"loop.example/g03319/impl"
)

func TestScreenConstants(t *testing.T) {
	got := []int{impl.Levels, impl.MaxWait, impl.VdOpen, impl.VdClear, impl.VdAlarm, impl.MaxImages, impl.MaxStaff, impl.MaxExactImages}
	want := []int{4, 5000, 0, 1, 2, 16, 16, 10}
	if !slices.Equal(got, want) {
		t.Errorf("constants are %v, want %v", got, want)
	}
}

func waits(list ...int) impl.Policy { return impl.Policy{Wait: list} }

// at returns a screen that waits at the level.
func at(level, since int) impl.Screen { return impl.Screen{Level: level, Since: since} }

func settled(level, since, verdict int) impl.Screen {
	return impl.Screen{Level: level, Since: since, Verdict: verdict}
}

// smallPolicies returns all valid policies with waits of up to three, and some with the greatest waits.
func smallPolicies() []impl.Policy {
	list := []impl.Policy{waits(5000, 5000, 5000), waits(1, 5000, 2), waits(5000, 1, 1)}
	for n := range 27 {
		list = append(list, waits(1+n/9, 1+n/3%3, 1+n%3))
	}
	return list
}

// smallScreens returns all valid screens with the times 0 to 4, and some with the last times.
func smallScreens() []impl.Screen {
	list := []impl.Screen{}
	for _, since := range []int{0, 1, 2, 3, 4, 84999, 85000, 99990, 99998, 99999, 100000} {
		for level := 1; level <= 4; level++ {
			list = append(list, at(level, since), settled(level, since, impl.VdClear))
		}
		list = append(list, settled(4, since, impl.VdAlarm))
	}
	return list
}

// invalidPolicies are policies each of which is invalid in a way that PolicyOk names.
func invalidPolicies() map[string]impl.Policy {
	return map[string]impl.Policy{
		"zero":                     {},
		"no waits":                 waits(),
		"one wait":                 waits(2),
		"two waits":                waits(2, 5),
		"two waits, others behind": {Wait: []int{2, 5, 9, 9}[:2]},
		"four waits":               waits(2, 5, 9, 9),
		"first wait 0":             waits(0, 5, 9),
		"second wait 0":            waits(2, 0, 9),
		"third wait 0":             waits(2, 5, 0),
		"first wait -1":            waits(-1, 5, 9),
		"second wait -1":           waits(2, -1, 9),
		"third wait -1":            waits(2, 5, -1),
		"least first wait":         waits(math.MinInt, 5, 9),
		"least second wait":        waits(2, math.MinInt, 9),
		"least third wait":         waits(2, 5, math.MinInt),
		"first wait 5001":          waits(5001, 5, 9),
		"second wait 5001":         waits(2, 5001, 9),
		"third wait 5001":          waits(2, 5, 5001),
		"greatest first wait":      waits(math.MaxInt, 5, 9),
		"greatest second wait":     waits(2, math.MaxInt, 9),
		"greatest third wait":      waits(2, 5, math.MaxInt),
		"greatest waits":           waits(math.MaxInt, math.MaxInt, math.MaxInt),
		"least waits":              waits(math.MinInt, math.MinInt, math.MinInt),
	}
}

// invalidScreens are screens each of which is invalid in a way that ScreenOk names.
func invalidScreens() map[string]impl.Screen {
	return map[string]impl.Screen{
		"zero":             {},
		"level 0":          at(0, 10),
		"level -1":         at(-1, 10),
		"least level":      at(math.MinInt, 10),
		"level 5":          at(5, 10),
		"level 5, clear":   settled(5, 10, impl.VdClear),
		"level 5, alarm":   settled(5, 10, impl.VdAlarm),
		"greatest level":   at(math.MaxInt, 10),
		"Since -1":         at(1, -1),
		"Since -1, last":   at(4, -1),
		"least Since":      at(1, math.MinInt),
		"Since 100001":     at(4, 100001),
		"greatest Since":   at(4, math.MaxInt),
		"Verdict -1":       settled(4, 10, -1),
		"least Verdict":    settled(1, 10, math.MinInt),
		"Verdict 3":        settled(4, 10, 3),
		"Verdict 3 at 1":   settled(1, 10, 3),
		"greatest Verdict": settled(4, 10, math.MaxInt),
		"alarm at level 1": settled(1, 10, impl.VdAlarm),
		"alarm at level 2": settled(2, 10, impl.VdAlarm),
		"alarm at level 3": settled(3, 10, impl.VdAlarm),
	}
}

func TestPolicyOk(t *testing.T) {
	for _, p := range append(smallPolicies(), waits(2, 5, 9), impl.Policy{Wait: []int{2, 5, 9, 0}[:3]}) {
		if !impl.PolicyOk(p) {
			t.Errorf("PolicyOk(%v) = false", p)
		}
	}
	for name, p := range invalidPolicies() {
		if impl.PolicyOk(p) {
			t.Errorf("%s: PolicyOk(%v) = true", name, p)
		}
	}
}

func TestPolicyOkLimits(t *testing.T) {
	for count := range 9 {
		list := []int{}
		for range count {
			list = append(list, 7)
		}
		if got := impl.PolicyOk(waits(list...)); got != (count == 3) {
			t.Errorf("PolicyOk with %d waits = %v", count, got)
		}
	}
	for i := range 3 {
		for _, wait := range []int{math.MinInt, -5000, -1, 0, 1, 2, 4999, 5000, 5001, 10000, math.MaxInt} {
			p := waits(2, 5, 9)
			p.Wait[i] = wait
			if got := impl.PolicyOk(p); got != (1 <= wait && wait <= 5000) {
				t.Errorf("PolicyOk(%v) = %v", p, got)
			}
		}
	}
}

func TestScreenOk(t *testing.T) {
	for _, s := range smallScreens() {
		if !impl.ScreenOk(s) {
			t.Errorf("ScreenOk(%v) = false", s)
		}
	}
	for name, s := range invalidScreens() {
		if impl.ScreenOk(s) {
			t.Errorf("%s: ScreenOk(%v) = true", name, s)
		}
	}
}

func TestScreenOkLimits(t *testing.T) {
	for _, level := range []int{math.MinInt, -1, 0, 1, 2, 3, 4, 5, 6, math.MaxInt} {
		for _, since := range []int{math.MinInt, -1, 0, 1, 99999, 100000, 100001, math.MaxInt} {
			for _, verdict := range []int{math.MinInt, -1, 0, 1, 2, 3, 4, math.MaxInt} {
				s := settled(level, since, verdict)
				want := level >= 1 && level <= 4 && since >= 0 && since <= 100000 && verdict >= 0 && (verdict <= 1 || verdict == 2 && level == 4)
				if got := impl.ScreenOk(s); got != want {
					t.Errorf("ScreenOk(%v) = %v", s, got)
				}
			}
		}
	}
}

func checkElapse(t *testing.T, p impl.Policy, s impl.Screen, now int, want impl.Screen) {
	t.Helper()
	if got := impl.Elapse(p, s, now); got != want {
		t.Errorf("Elapse(%v, %v, %d) = %v, want %v", p, s, now, got, want)
	}
}

func TestElapse(t *testing.T) {
	p := waits(2, 5, 9)
	checkElapse(t, p, at(1, 10), 10, at(1, 10))
	checkElapse(t, p, at(1, 10), 12, at(1, 10))
	checkElapse(t, p, at(1, 10), 13, at(2, 12))
	checkElapse(t, p, at(1, 10), 17, at(2, 12))
	checkElapse(t, p, at(1, 10), 18, at(3, 17))
	checkElapse(t, p, at(1, 10), 26, at(3, 17))
	checkElapse(t, p, at(1, 10), 27, at(4, 26))
	checkElapse(t, p, at(1, 10), 100000, at(4, 26))
	checkElapse(t, p, at(2, 10), 15, at(2, 10))
	checkElapse(t, p, at(2, 10), 16, at(3, 15))
	checkElapse(t, p, at(2, 10), 25, at(4, 24))
	checkElapse(t, p, at(3, 10), 19, at(3, 10))
	checkElapse(t, p, at(3, 10), 20, at(4, 19))
	checkElapse(t, p, at(4, 10), 100000, at(4, 10))
	checkElapse(t, waits(1, 1, 1), at(1, 0), 1, at(1, 0))
	checkElapse(t, waits(1, 1, 1), at(1, 0), 2, at(2, 1))
	checkElapse(t, waits(1, 1, 1), at(1, 0), 3, at(3, 2))
	checkElapse(t, waits(1, 1, 1), at(1, 0), 4, at(4, 3))
	checkElapse(t, waits(1, 1, 1), at(1, 0), 100000, at(4, 3))
	checkElapse(t, waits(5000, 5000, 5000), at(1, 0), 5000, at(1, 0))
	checkElapse(t, waits(5000, 5000, 5000), at(1, 0), 5001, at(2, 5000))
	checkElapse(t, waits(5000, 5000, 5000), at(1, 0), 15000, at(3, 10000))
	checkElapse(t, waits(5000, 5000, 5000), at(1, 0), 15001, at(4, 15000))
	checkElapse(t, waits(5000, 5000, 5000), at(3, 95000), 100000, at(3, 95000))
	checkElapse(t, waits(5000, 5000, 5000), at(3, 94999), 100000, at(4, 99999))
}

func TestElapseBeforeSince(t *testing.T) {
	for level := 1; level <= 4; level++ {
		for _, now := range []int{0, 1, 8, 9, 10} {
			checkElapse(t, waits(1, 1, 1), at(level, 10), now, at(level, 10))
		}
		checkElapse(t, waits(1, 1, 1), at(level, 100000), 0, at(level, 100000))
	}
}

func TestSettledScreensDoNotElapse(t *testing.T) {
	for _, s := range smallScreens() {
		if s.Verdict == impl.VdOpen {
			continue
		}
		for _, now := range []int{0, 1, 5, 6, 5001, 99999, 100000} {
			checkElapse(t, waits(1, 1, 1), s, now, s)
		}
	}
}

// plainElapse lets one tick after another go by; in each of them the bag goes on at most once, for no wait is 0.
func plainElapse(p impl.Policy, s impl.Screen, now int) impl.Screen {
	for time := s.Since + 1; time <= now; time++ {
		if s.Verdict == 0 && s.Level <= 3 && s.Since+p.Wait[s.Level-1] < time {
			s = at(s.Level+1, s.Since+p.Wait[s.Level-1])
		}
	}
	return s
}

func TestElapseOfSmallScreens(t *testing.T) {
	for _, p := range smallPolicies() {
		for _, s := range smallScreens() {
			for span := -2; span <= 12; span++ {
				if now := s.Since + span; now >= 0 && now <= 100000 {
					checkElapse(t, p, s, now, plainElapse(p, s, now))
				}
			}
		}
	}
}

// randomCase returns a policy, a screen and a time that are valid; the time often is near an end of a wait.
func randomCase(r *rand.Rand) (impl.Policy, impl.Screen, int) {
	span := []int{3, 20, 300, impl.MaxWait}[r.Intn(4)]
	p := waits(1+r.Intn(span), 1+r.Intn(span), 1+r.Intn(span))
	since := r.Intn(2 * span)
	if r.Intn(2) == 0 {
		since = impl.MaxTick - r.Intn(4*span)
	}
	s := at(1+r.Intn(4), since)
	if r.Intn(8) == 0 {
		s.Verdict = impl.VdClear
	}
	now := since + r.Intn(4*span)
	if r.Intn(2) == 0 {
		now = since - 1 + r.Intn(3)
		for _, wait := range p.Wait[min(s.Level-1, 3) : min(s.Level-1, 3)+r.Intn(5-s.Level)] {
			now += wait
		}
	}
	return p, s, min(max(now, 0), impl.MaxTick)
}

func TestElapseOfRandomScreens(t *testing.T) {
	r := rand.New(rand.NewSource(8))
	for range 3000 {
		p, s, now := randomCase(r)
		checkElapse(t, p, s, now, plainElapse(p, s, now))
	}
}

// badTimes are outside the range 0 to MaxTick.
func badTimes() []int {
	return []int{math.MinInt, -100000, -1, 100001, 100002, math.MaxInt - 1, math.MaxInt}
}

func someTimes() []int { return []int{0, 9, 10, 11, 13, 18, 27, 5001, 99999, 100000} }

// onInvalidArguments calls the function with a policy, a screen and a time of which at least one is not valid.
func onInvalidArguments(call func(p impl.Policy, s impl.Screen, now int)) {
	valid := waits(1, 1, 1)
	for _, now := range append(badTimes(), someTimes()...) {
		for _, s := range invalidScreens() {
			call(valid, s, now)
		}
		for _, p := range invalidPolicies() {
			for _, s := range smallScreens() {
				call(p, s, now)
			}
			for _, s := range invalidScreens() {
				call(p, s, now)
			}
		}
	}
	for _, now := range badTimes() {
		for _, s := range smallScreens() {
			call(valid, s, now)
		}
	}
}

func TestElapseOfInvalidArguments(t *testing.T) {
	onInvalidArguments(func(p impl.Policy, s impl.Screen, now int) {
		checkElapse(t, p, s, now, s)
	})
}

func checkHandTime(t *testing.T, p impl.Policy, s impl.Screen, want int) {
	t.Helper()
	if got, ok := impl.HandTime(p, s); got != want || !ok {
		t.Errorf("HandTime(%v, %v) = %d, %v; want %d", p, s, got, ok, want)
	}
}

func checkNoHandTime(t *testing.T, p impl.Policy, s impl.Screen) {
	t.Helper()
	if got, ok := impl.HandTime(p, s); got != 0 || ok {
		t.Errorf("HandTime(%v, %v) = %d, %v", p, s, got, ok)
	}
}

func TestHandTime(t *testing.T) {
	p := waits(2, 5, 9)
	checkHandTime(t, p, at(1, 10), 27)
	checkHandTime(t, p, at(2, 10), 25)
	checkHandTime(t, p, at(3, 10), 20)
	checkHandTime(t, p, at(4, 10), 10)
	checkHandTime(t, p, at(1, 0), 17)
	checkHandTime(t, p, at(4, 0), 0)
	checkHandTime(t, waits(1, 1, 1), at(1, 0), 4)
	checkHandTime(t, waits(5000, 5000, 5000), at(1, 0), 15001)
	for level := 1; level <= 4; level++ {
		checkNoHandTime(t, p, settled(level, 10, impl.VdClear))
	}
	checkNoHandTime(t, p, settled(4, 10, impl.VdAlarm))
}

func TestHandTimeLimit(t *testing.T) {
	p := waits(2, 5, 9)
	checkHandTime(t, p, at(1, 99983), 100000)
	checkNoHandTime(t, p, at(1, 99984))
	checkHandTime(t, p, at(2, 99985), 100000)
	checkNoHandTime(t, p, at(2, 99986))
	checkHandTime(t, p, at(3, 99990), 100000)
	checkNoHandTime(t, p, at(3, 99991))
	checkHandTime(t, p, at(4, 100000), 100000)
	checkNoHandTime(t, p, at(4, 100001))
	checkHandTime(t, waits(5000, 5000, 5000), at(1, 84999), 100000)
	checkNoHandTime(t, waits(5000, 5000, 5000), at(1, 85000))
	checkNoHandTime(t, waits(5000, 5000, 5000), at(1, 100000))
	checkNoHandTime(t, waits(1, 1, 1), at(3, 100000))
	checkHandTime(t, waits(1, 1, 1), at(3, 99998), 100000)
	checkNoHandTime(t, waits(1, 1, 1), at(3, 99999))
}

func TestHandTimeOfInvalidArguments(t *testing.T) {
	for _, p := range invalidPolicies() {
		for _, s := range smallScreens() {
			checkNoHandTime(t, p, s)
		}
	}
	for _, s := range invalidScreens() {
		checkNoHandTime(t, waits(1, 1, 1), s)
	}
}

// plainHandTime waits until the screen is at the last level.
func plainHandTime(p impl.Policy, s impl.Screen) (int, bool) {
	for now := s.Since; now <= impl.MaxTick && s.Verdict == 0; now++ {
		if s = plainElapse(p, s, now); s.Level == 4 {
			return now, true
		}
	}
	return 0, false
}

func TestHandTimeOfSmallAndRandomScreens(t *testing.T) {
	check := func(p impl.Policy, s impl.Screen) {
		t.Helper()
		want, wantOk := plainHandTime(p, s)
		if got, ok := impl.HandTime(p, s); got != want || ok != wantOk {
			t.Errorf("HandTime(%v, %v) = %d, %v; want %d, %v", p, s, got, ok, want, wantOk)
		}
	}
	for _, p := range smallPolicies()[1:] {
		for _, s := range smallScreens() {
			if s.Since < 10 || s.Since > 90000 {
				check(p, s)
			}
		}
	}
	r := rand.New(rand.NewSource(9))
	for range 500 {
		if p, s, _ := randomCase(r); slices.Max(p.Wait) < 400 {
			check(p, s)
		}
	}
}

func TestScreensComeToTheLastLevelAtHandTime(t *testing.T) {
	r := rand.New(rand.NewSource(10))
	came := 0
	for range 3000 {
		p, s, _ := randomCase(r)
		time, ok := impl.HandTime(p, s)
		if !ok && s.Verdict == impl.VdOpen && impl.Elapse(p, s, impl.MaxTick).Level == impl.Levels {
			t.Errorf("%v comes to the last level by %v, but HandTime tells no time", s, p)
		}
		if !ok || s.Level == impl.Levels {
			continue
		}
		came++
		before, then := impl.Elapse(p, s, time-1), impl.Elapse(p, s, time)
		if before.Level != impl.Levels-1 || then.Level != impl.Levels {
			t.Errorf("%v is %v before %d and then %v by %v", s, before, time, then, p)
		}
	}
	if came < 1000 {
		t.Errorf("only %d screens came to the last level", came)
	}
}
