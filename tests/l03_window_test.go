package tests

import (
	"math"
	"math/rand"
	"slices"
	"testing"

	"loop.example/g03319/impl"
)

func checkWindows(t *testing.T, b impl.Belt, place, now, slack int, want ...[3]int) {
	t.Helper()
	if got, ok := impl.Windows(b, place, now, slack); !slices.Equal(got, expects(want...)) || !ok {
		t.Errorf("Windows(%v, %d, %d, %d) = %v, %v; want %v", b, place, now, slack, got, ok, want)
	}
}

func checkNoWindows(t *testing.T, b impl.Belt, place, now, slack int) {
	t.Helper()
	if got, ok := impl.Windows(b, place, now, slack); len(got) != 0 || ok {
		t.Errorf("Windows(%v, %d, %d, %d) = %v, %v", b, place, now, slack, got, ok)
	}
}

func TestWindows(t *testing.T) {
	b := belt(10, 1, [3]int{8, 9, 3}, [3]int{2, 4, 2})
	for _, b := range []impl.Belt{b, heldBelt(b)} {
		checkWindows(t, b, 10, 100, 2, [3]int{8, 99, 103}, [3]int{2, 104, 108})
		checkWindows(t, b, 10, 100, 0, [3]int{8, 101, 101}, [3]int{2, 106, 106})
		checkWindows(t, b, 9, 100, 1, [3]int{2, 104, 106})
		checkWindows(t, b, 8, 100, 1, [3]int{2, 103, 105})
		checkWindows(t, b, 5, 100, 1, [3]int{2, 100, 102})
		checkWindows(t, b, 4, 100, 1)
		checkWindows(t, b, 3, 100, 1)
		checkWindows(t, b, 1, 100, 1)
		checkNoWindows(t, b, 0, 100, 1)
		checkNoWindows(t, b, 11, 100, 1)
	}
	checkWindows(t, belt(10, 1), 10, 100, 1)
	checkWindows(t, belt(1, 0), 1, 0, 0)
	checkWindows(t, belt(400, 0, [3]int{math.MaxInt, 1, 1}), 400, 0, 0, [3]int{math.MaxInt, 399, 399})
}

func TestWindowsAreClamped(t *testing.T) {
	b := belt(10, 1, [3]int{8, 9, 3}, [3]int{2, 4, 2})
	checkWindows(t, b, 10, 0, 0, [3]int{8, 1, 1}, [3]int{2, 6, 6})
	checkWindows(t, b, 10, 0, 1, [3]int{8, 0, 2}, [3]int{2, 5, 7})
	checkWindows(t, b, 10, 0, 2, [3]int{8, 0, 3}, [3]int{2, 4, 8})
	checkWindows(t, b, 10, 0, 7, [3]int{8, 0, 8}, [3]int{2, 0, 13})
	checkWindows(t, b, 10, 0, 100000, [3]int{8, 0, 100000}, [3]int{2, 0, 100000})
	checkWindows(t, b, 10, 99990, 3, [3]int{8, 99988, 99994}, [3]int{2, 99993, 99999})
	checkWindows(t, b, 10, 99991, 3, [3]int{8, 99989, 99995}, [3]int{2, 99994, 100000})
	checkWindows(t, b, 10, 99992, 3, [3]int{8, 99990, 99996}, [3]int{2, 99995, 100000})
	checkWindows(t, b, 10, 99999, 0, [3]int{8, 100000, 100000}, [3]int{2, 100000, 100000})
	checkWindows(t, b, 10, 100000, 0, [3]int{8, 100000, 100000}, [3]int{2, 100000, 100000})
	checkWindows(t, b, 10, 100000, 3, [3]int{8, 99998, 100000}, [3]int{2, 100000, 100000})
	checkWindows(t, b, 10, 100000, 6, [3]int{8, 99995, 100000}, [3]int{2, 100000, 100000})
	checkWindows(t, b, 10, 100000, 7, [3]int{8, 99994, 100000}, [3]int{2, 99999, 100000})
	checkWindows(t, b, 10, 100000, 100000, [3]int{8, 1, 100000}, [3]int{2, 6, 100000})
	checkWindows(t, b, 10, 50000, 100000, [3]int{8, 0, 100000}, [3]int{2, 0, 100000})
}

func TestWindowsLimits(t *testing.T) {
	b := belt(10, 1, [3]int{8, 9, 3}, [3]int{2, 4, 2})
	check := func(place, now, slack int, want bool) {
		t.Helper()
		if got, ok := impl.Windows(b, place, now, slack); ok != want || !ok && len(got) != 0 {
			t.Errorf("Windows(%v, %d, %d, %d) = %v, %v", b, place, now, slack, got, ok)
		}
	}
	for n := -3; n <= 13; n++ {
		check(n, 100, 1, n >= 1 && n <= 10)
		check(10, n, 1, n >= 0)
		check(10, 100, n, n >= 0)
		check(10, 100000+n, 1, n <= 0)
		check(10, 100, 100000+n, n <= 0)
	}
	for _, n := range []int{math.MinInt, math.MinInt + 1, math.MaxInt - 1, math.MaxInt} {
		check(n, 100, 1, false)
		check(10, n, 1, false)
		check(10, 100, n, false)
		check(n, n, n, false)
	}
}

func TestWindowsOfInvalidBelts(t *testing.T) {
	for name, b := range invalidBelts() {
		for _, place := range []int{math.MinInt, -1, 0, 1, 2, 5, 6, 10, 11, 60, 400, 401, math.MaxInt} {
			for _, now := range []int{-1, 0, 100, 100000, 100001} {
				if got, ok := impl.Windows(b, place, now, 2); len(got) != 0 || ok {
					t.Errorf("Windows(%s, %d, %d, 2) = %v, %v", name, place, now, got, ok)
				}
			}
		}
	}
}

func TestWindowsItemLimit(t *testing.T) {
	for count := range 10 {
		// The items stand at the places 400, 398 and so on; those at the place or beyond it do not count.
		b := rowOfBags(400, 1, count, 1)
		for ahead := range count + 1 {
			got, ok := impl.Windows(b, 400-2*ahead, 0, 0)
			if behind := max(0, count-ahead-1); behind > 6 {
				checkNoWindows(t, b, 400-2*ahead, 0, 0)
			} else if !ok || len(got) != behind {
				t.Errorf("Windows with %d items behind the place = %v, %v", behind, got, ok)
			}
		}
	}
	full := rowOfBags(400, 0, 40, 10)
	for place := 1; place <= 400; place++ {
		behind := (place - 1) / 10
		if got, ok := impl.Windows(full, place, 5, 1); ok != (behind <= 6) || ok && len(got) != behind {
			t.Errorf("Windows with %d items behind the place %d = %v, %v", behind, place, got, ok)
		}
	}
}

// plainWindows counts the steps that each item has to go, and the times around the last of them.
func plainWindows(b impl.Belt, place, now, slack int) []impl.Expect {
	list := []impl.Expect{}
	for _, item := range b.Items {
		steps := 0
		for front := item.Front; front < place; front++ {
			steps++
		}
		if steps > 0 {
			list = append(list, impl.Expect{Bag: item.Bag, From: min(max(now+steps-slack, 0), 100000), To: min(now+steps+slack, 100000)})
		}
	}
	return list
}

func checkAgainstPlainWindows(t *testing.T, b impl.Belt, place, now, slack int) {
	t.Helper()
	want := plainWindows(b, place, now, slack)
	if len(want) > 6 {
		checkNoWindows(t, b, place, now, slack)
		return
	}
	got, ok := impl.Windows(b, place, now, slack)
	if !ok || !slices.Equal(got, want) {
		t.Errorf("Windows(%v, %d, %d, %d) = %v, %v; want %v", b, place, now, slack, got, ok, want)
	}
	if !impl.ExpectOk(got) {
		t.Errorf("Windows(%v, %d, %d, %d) = %v, which is not valid", b, place, now, slack, got)
	}
}

func TestWindowsOfSmallAndRandomBelts(t *testing.T) {
	for _, b := range smallBelts() {
		for place := 1; place <= b.Len; place++ {
			for _, now := range []int{0, 1, 3, 99996, 99999, 100000} {
				for _, slack := range []int{0, 1, 4, 100000} {
					checkAgainstPlainWindows(t, b, place, now, slack)
				}
			}
		}
	}
	r := rand.New(rand.NewSource(6))
	for _, b := range randomBelts(300) {
		for range 30 {
			slack := r.Intn(1 + r.Intn(impl.MaxTick+1))
			checkAgainstPlainWindows(t, b, 1+r.Intn(b.Len), r.Intn(impl.MaxTick+1), slack)
		}
	}
}

func frontOf(b impl.Belt, bag int) int {
	for _, item := range b.Items {
		if item.Bag == bag {
			return item.Front
		}
	}
	return 0
}

// checkArrivals runs the belt until each item is expected at the place, and until just before.
func checkArrivals(t *testing.T, b impl.Belt, place, now int) int {
	t.Helper()
	list, ok := impl.Windows(b, place, now, 0)
	if !ok {
		return 0
	}
	for _, e := range list {
		if e.From != e.To || e.From <= now {
			t.Errorf("Windows(%v, %d, %d, 0) = %v", b, place, now, list)
			continue
		}
		before, _ := impl.Run(b, e.From-now-1)
		after, _ := impl.Run(b, e.From-now)
		if frontOf(before, e.Bag) != place-1 || frontOf(after, e.Bag) != place {
			t.Errorf("bag %d of %v is expected at the place %d at %v from %d on, but comes from %d to %d", e.Bag, b, place, e, now, frontOf(before, e.Bag), frontOf(after, e.Bag))
		}
	}
	return len(list)
}

func TestItemsComeWhenTheyAreExpected(t *testing.T) {
	arrivals := 0
	for _, b := range smallBelts() {
		b.Held = false
		for place := 1; place <= b.Len; place++ {
			arrivals += checkArrivals(t, b, place, 7)
		}
	}
	r := rand.New(rand.NewSource(7))
	for _, b := range randomBelts(200) {
		b.Held = false
		for _, place := range []int{b.Len, 1 + r.Intn(b.Len), 1 + r.Intn(b.Len), 1 + b.Len/8} {
			arrivals += checkArrivals(t, b, place, r.Intn(impl.MaxTick-impl.MaxBeltLen))
		}
	}
	if arrivals < 5000 {
		t.Errorf("only %d items came to a place", arrivals)
	}
}

func spoilWindows(list []impl.Expect) {
	for i := range list[:cap(list)] {
		list[:cap(list)][i] = impl.Expect{Bag: -7, From: -7, To: -7}
	}
}

func TestWindowsArgumentsAreNotChanged(t *testing.T) {
	checkItemsAreKept(t, func(b impl.Belt) {
		for _, place := range []int{0, 1, b.Len/2 + 1, b.Len, b.Len + 1} {
			first, wasOk := impl.Windows(b, place, 100, 3)
			wanted := slices.Clone(first)
			spoilWindows(first)
			if again, ok := impl.Windows(b, place, 100, 3); ok != wasOk || !slices.Equal(again, wanted) {
				t.Errorf("Windows(%v, %d, 100, 3) = %v, then %v", b, place, wanted, again)
			}
		}
	})
}
