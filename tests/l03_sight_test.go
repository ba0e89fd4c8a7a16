package tests

import (
	"math"
	"math/rand"
	"slices"
	"testing"

	"loop.example/g03319/impl"
)

func TestTrackConstants(t *testing.T) {
	got := []int{impl.MaxTick, impl.MaxExpect}
	want := []int{100000, 6}
	if !slices.Equal(got, want) {
		t.Errorf("constants are %v, want %v", got, want)
	}
}

// expects returns a list of elements that are given as bag, first and last time.
func expects(elements ...[3]int) []impl.Expect {
	list := []impl.Expect{}
	for _, v := range elements {
		list = append(list, impl.Expect{Bag: v[0], From: v[1], To: v[2]})
	}
	return list
}

// seen returns sights that are given as time and bag.
func seen(sights ...[2]int) []impl.Sight {
	list := []impl.Sight{}
	for _, v := range sights {
		list = append(list, impl.Sight{Time: v[0], Bag: v[1]})
	}
	return list
}

// unread returns sights without a bag at the times.
func unread(times ...int) []impl.Sight {
	list := []impl.Sight{}
	for _, time := range times {
		list = append(list, impl.Sight{Time: time})
	}
	return list
}

// manyExpects returns a list of so many elements, with the bags 1 to count, that all are expected at all times.
func manyExpects(count int) []impl.Expect {
	list := []impl.Expect{}
	for bag := 1; bag <= count; bag++ {
		list = append(list, impl.Expect{Bag: bag, From: 0, To: impl.MaxTick})
	}
	return list
}

// scene is a list and the sights that are to be matched to it.
type scene struct {
	list   []impl.Expect
	sights []impl.Sight
}

// smallScenes returns all valid scenes of up to three elements and three sights, with the times 0 to 2; of the bags
// that are named one is expected in the longer lists, and one never.
func smallScenes() []scene {
	lists := [][]impl.Expect{{}}
	for at := 0; len(lists[at]) < 3; at++ {
		for n := range 9 {
			if from, to := n/3, n%3; from <= to {
				next := impl.Expect{Bag: []int{5, 2, 8}[len(lists[at])], From: from, To: to}
				lists = append(lists, append(slices.Clone(lists[at]), next))
			}
		}
	}
	rows := [][]impl.Sight{{}}
	for at := 0; len(rows[at]) < 3; at++ {
		for n := range 9 {
			next := impl.Sight{Time: n / 3, Bag: []int{0, 2, 9}[n%3]}
			if row := append(slices.Clone(rows[at]), next); plainSightsOk(row) {
				rows = append(rows, row)
			}
		}
	}
	scenes := []scene{}
	for _, list := range lists {
		for _, sights := range rows {
			scenes = append(scenes, scene{list, sights})
		}
	}
	return scenes
}

// randomScenes returns valid scenes of all sizes, some with few times, some with many.
func randomScenes(count int) []scene {
	r := rand.New(rand.NewSource(5))
	scenes := []scene{}
	for range count {
		span := []int{2, 5, 9, 30, impl.MaxTick}[r.Intn(5)]
		bags := r.Perm(12)
		s := scene{}
		for i := range r.Intn(impl.MaxExpect + 1) {
			from := r.Intn(span + 1)
			to := min(from+r.Intn(1+r.Intn(span+1)), span)
			s.list = append(s.list, impl.Expect{Bag: 1 + bags[i], From: from, To: to})
		}
		rarely := 1 + r.Intn(10)
		named := r.Perm(12)
		for i := range r.Intn(impl.MaxExpect + 1) {
			sight := impl.Sight{Time: r.Intn(span + 1)}
			if r.Intn(rarely) == 1 {
				sight.Bag = 1 + named[i]
			}
			s.sights = append(s.sights, sight)
		}
		slices.SortStableFunc(s.sights, func(a, b impl.Sight) int { return a.Time - b.Time })
		scenes = append(scenes, s)
	}
	return scenes
}

func TestScenes(t *testing.T) {
	if got, want := len(smallScenes()), (1+6+36+216)*(1+9+42+130); got != want {
		t.Errorf("there are %d small scenes, want %d", got, want)
	}
	for _, s := range append(smallScenes(), randomScenes(3000)...) {
		if !impl.ExpectOk(s.list) || !impl.SightsOk(s.sights) {
			t.Errorf("ExpectOk(%v) = %v, SightsOk(%v) = %v", s.list, impl.ExpectOk(s.list), s.sights, impl.SightsOk(s.sights))
		}
	}
}

// invalidLists are lists each of which is invalid in a way that ExpectOk names.
func invalidLists() map[string][]impl.Expect {
	return map[string][]impl.Expect{
		"7 elements":              manyExpects(7),
		"bag 0":                   expects([3]int{0, 0, 10}),
		"bag 0 behind":            expects([3]int{1, 0, 10}, [3]int{0, 0, 10}),
		"bag -1":                  expects([3]int{-1, 0, 10}, [3]int{2, 0, 10}),
		"least bag":               expects([3]int{math.MinInt, 0, 10}),
		"the same bag":            expects([3]int{3, 0, 10}, [3]int{3, 0, 10}),
		"the same bag, apart":     expects([3]int{3, 0, 4}, [3]int{1, 0, 10}, [3]int{3, 6, 10}),
		"the same bag, last two":  expects([3]int{1, 0, 4}, [3]int{3, 0, 10}, [3]int{3, 6, 10}),
		"From -1":                 expects([3]int{1, -1, 10}),
		"From -1 behind":          expects([3]int{1, 0, 10}, [3]int{2, -1, 10}),
		"least From":              expects([3]int{1, math.MinInt, 10}),
		"To less than From":       expects([3]int{1, 5, 4}),
		"To less than From, last": expects([3]int{1, 0, 10}, [3]int{2, 5, 4}),
		"From and To -1":          expects([3]int{1, -1, -1}),
		"least To":                expects([3]int{1, 0, math.MinInt}),
		"To 100001":               expects([3]int{1, 0, 100001}),
		"To 100001 behind":        expects([3]int{1, 0, 10}, [3]int{2, 0, 100001}),
		"From and To 100001":      expects([3]int{1, 100001, 100001}),
		"greatest To":             expects([3]int{1, 0, math.MaxInt}),
		"greatest From":           expects([3]int{1, math.MaxInt, 10}),
	}
}

// invalidSights are sights each of which are invalid in a way that SightsOk names.
func invalidSights() map[string][]impl.Sight {
	return map[string][]impl.Sight{
		"7 sights":                   unread(1, 2, 3, 4, 5, 6, 7),
		"7 sights with bags":         seen([2]int{1, 1}, [2]int{1, 2}, [2]int{1, 3}, [2]int{1, 4}, [2]int{1, 5}, [2]int{1, 6}, [2]int{1, 7}),
		"time -1":                    unread(-1),
		"time -1 ahead":              unread(-1, 5),
		"least time":                 unread(math.MinInt),
		"time 100001":                unread(100001),
		"time 100001 behind":         unread(5, 100001),
		"greatest time":              unread(math.MaxInt),
		"earlier than the last":      unread(5, 4),
		"earlier, last two":          unread(1, 5, 4),
		"earlier, first two":         unread(5, 4, 6),
		"time -1 behind":             unread(5, -1),
		"bag -1":                     seen([2]int{5, -1}),
		"bag -1 behind":              seen([2]int{5, 0}, [2]int{5, -1}),
		"bag -1 ahead":               seen([2]int{5, -1}, [2]int{5, 0}),
		"least bag":                  seen([2]int{5, math.MinInt}),
		"the same bag":               seen([2]int{5, 3}, [2]int{5, 3}),
		"the same bag, apart":        seen([2]int{4, 3}, [2]int{5, 0}, [2]int{6, 3}),
		"the same bag, last two":     seen([2]int{4, 0}, [2]int{5, 3}, [2]int{6, 3}),
		"the same bag, not expected": seen([2]int{4, 77}, [2]int{5, 77}),
	}
}

func TestExpectOk(t *testing.T) {
	for _, list := range [][]impl.Expect{
		nil,
		expects(),
		expects([3]int{1, 0, 10}, [3]int{2, 3, 5}),
		expects([3]int{2, 3, 5}, [3]int{1, 0, 10}),
		expects([3]int{1, 0, 0}),
		expects([3]int{1, 100000, 100000}),
		expects([3]int{1, 0, 100000}, [3]int{2, 0, 100000}),
		expects([3]int{math.MaxInt, 4, 4}),
		manyExpects(6),
	} {
		if !impl.ExpectOk(list) {
			t.Errorf("ExpectOk(%v) = false", list)
		}
	}
	for name, list := range invalidLists() {
		if impl.ExpectOk(list) {
			t.Errorf("ExpectOk(%s: %v) = true", name, list)
		}
	}
}

func TestExpectOkLimits(t *testing.T) {
	for n := -3; n <= 12; n++ {
		if got := impl.ExpectOk(manyExpects(n)); got != (n <= 6) {
			t.Errorf("ExpectOk of %d elements = %v", n, got)
		}
		if got := impl.ExpectOk(expects([3]int{5, 0, 9}, [3]int{n, 0, 9})); got != (n >= 1 && n != 5) {
			t.Errorf("ExpectOk with bag %d = %v", n, got)
		}
		if got := impl.ExpectOk(expects([3]int{5, 0, 9}, [3]int{6, n, 9})); got != (n >= 0 && n <= 9) {
			t.Errorf("ExpectOk with From %d = %v", n, got)
		}
		if got := impl.ExpectOk(expects([3]int{5, 0, 9}, [3]int{6, 4, n})); got != (n >= 4) {
			t.Errorf("ExpectOk with From 4 and To %d = %v", n, got)
		}
		if got := impl.ExpectOk(expects([3]int{5, 0, 9}, [3]int{6, 4, 100000 + n})); got != (n <= 0) {
			t.Errorf("ExpectOk with To %d = %v", 100000+n, got)
		}
	}
}

func TestSightsOk(t *testing.T) {
	for _, sights := range [][]impl.Sight{
		nil,
		seen(),
		unread(4, 8),
		unread(0, 0, 0, 0, 0, 0),
		unread(100000, 100000, 100000, 100000, 100000, 100000),
		unread(0, 100000),
		seen([2]int{3, 0}, [2]int{3, 8}, [2]int{3, 0}, [2]int{4, 2}),
		seen([2]int{3, math.MaxInt}),
	} {
		if !impl.SightsOk(sights) {
			t.Errorf("SightsOk(%v) = false", sights)
		}
	}
	for name, sights := range invalidSights() {
		if impl.SightsOk(sights) {
			t.Errorf("SightsOk(%s: %v) = true", name, sights)
		}
	}
}

func TestSightsOkLimits(t *testing.T) {
	for n := -3; n <= 12; n++ {
		if got := impl.SightsOk(unread(make([]int, max(n, 0))...)); got != (n <= 6) {
			t.Errorf("SightsOk of %d sights = %v", n, got)
		}
		if got := impl.SightsOk(seen([2]int{2, 5}, [2]int{2, n})); got != (n >= 0 && n != 5) {
			t.Errorf("SightsOk with bag %d = %v", n, got)
		}
		if got := impl.SightsOk(unread(n)); got != (n >= 0) {
			t.Errorf("SightsOk with time %d = %v", n, got)
		}
		if got := impl.SightsOk(unread(4, n)); got != (n >= 4) {
			t.Errorf("SightsOk with the times 4 and %d = %v", n, got)
		}
		if got := impl.SightsOk(unread(n, 4)); got != (n >= 0 && n <= 4) {
			t.Errorf("SightsOk with the times %d and 4 = %v", n, got)
		}
		if got := impl.SightsOk(unread(4, 100000+n)); got != (n <= 0) {
			t.Errorf("SightsOk with time %d = %v", 100000+n, got)
		}
	}
}

// plainSightsOk compares each sight with each other one.
func plainSightsOk(sights []impl.Sight) bool {
	for i, a := range sights {
		if a.Time < 0 || a.Time > 100000 || a.Bag < 0 {
			return false
		}
		for _, b := range sights[i+1:] {
			if b.Time < a.Time || a.Bag != 0 && a.Bag == b.Bag {
				return false
			}
		}
	}
	return len(sights) <= 6
}

func TestSightsOkOfThreeSights(t *testing.T) {
	counts := map[bool]int{}
	for n := range 4 * 4 * 4 * 3 * 3 * 3 {
		sights := unread(n%4-1, n/4%4-1, n/16%4-1)
		sights[0].Bag, sights[1].Bag, sights[2].Bag = n/64%3-1, n/192%3-1, n/576-1
		sights[2].Bag *= 2
		counts[plainSightsOk(sights)]++
		if got := impl.SightsOk(sights); got != plainSightsOk(sights) {
			t.Errorf("SightsOk(%v) = %v", sights, got)
		}
	}
	if counts[true] < 50 || counts[false] < 50 {
		t.Errorf("few of the sights are valid, or few are not: %v", counts)
	}
}

func TestInvalidListsAndSightsHaveFixedResults(t *testing.T) {
	check := func(name string, list []impl.Expect, sights []impl.Sight) {
		t.Helper()
		if got := impl.Assign(list, sights); len(got) != 0 {
			t.Errorf("Assign(%s) = %v, want nil", name, got)
		}
		for _, now := range []int{-1, 0, 5, 100001, math.MaxInt} {
			if got := impl.Missing(list, sights, now); len(got) != 0 {
				t.Errorf("Missing(%s, %d) = %v, want nil", name, now, got)
			}
		}
		if got := impl.MostAssigned(list, sights); got != -1 {
			t.Errorf("MostAssigned(%s) = %d, want -1", name, got)
		}
		for i := -1; i <= 7; i++ {
			if got := impl.Choices(list, sights, i); len(got) != 0 {
				t.Errorf("Choices(%s, %d) = %v, want nil", name, i, got)
			}
		}
		if got := impl.Sure(list, sights); len(got) != 0 {
			t.Errorf("Sure(%s) = %v, want nil", name, got)
		}
	}
	for name, list := range invalidLists() {
		for _, sights := range [][]impl.Sight{nil, unread(5), seen([2]int{5, 9}), unread(0, 5, 10), unread(-1), seen([2]int{5, 2}, [2]int{5, 2})} {
			check(name, list, sights)
		}
	}
	for name, sights := range invalidSights() {
		for _, list := range [][]impl.Expect{nil, expects([3]int{3, 0, 10}), expects([3]int{7, 0, 4}, [3]int{3, 2, 100000}), manyExpects(6)} {
			check(name, list, sights)
		}
	}
}

func checkAssign(t *testing.T, list []impl.Expect, sights []impl.Sight, want ...int) {
	t.Helper()
	if got := impl.Assign(list, sights); !slices.Equal(got, want) {
		t.Errorf("Assign(%v, %v) = %v, want %v", list, sights, got, want)
	}
}

func TestAssign(t *testing.T) {
	list := expects([3]int{1, 0, 10}, [3]int{2, 3, 5})
	checkAssign(t, list, unread(4, 8), 2, 1)
	checkAssign(t, list, unread(2, 4), 1, 2)
	checkAssign(t, list, unread(4, 4), 2, 1)
	checkAssign(t, list, unread(4, 4, 4), 2, 1, 0)
	checkAssign(t, list, unread(6, 7), 1, 0)
	checkAssign(t, list, unread(11), 0)
	checkAssign(t, list, unread(11, 12, 13), 0, 0, 0)
	checkAssign(t, list, nil)
	checkAssign(t, nil, nil)
	checkAssign(t, nil, unread(0, 4), 0, 0)
	checkAssign(t, nil, seen([2]int{0, 0}, [2]int{4, 7}), 0, 7)
	checkAssign(t, manyExpects(6), unread(0, 0, 0, 0, 0, 100000), 1, 2, 3, 4, 5, 6)
	checkAssign(t, manyExpects(2), unread(0, 0, 0, 0, 0, 100000), 1, 2, 0, 0, 0, 0)
}

func TestAssignOfNamedBags(t *testing.T) {
	list := expects([3]int{1, 0, 10}, [3]int{2, 3, 5})
	// The sights with a bag are taken for it when they are expected, when they are not, and too early or too late.
	checkAssign(t, list, seen([2]int{4, 2}, [2]int{8, 0}), 2, 1)
	checkAssign(t, list, seen([2]int{4, 1}, [2]int{4, 0}), 1, 2)
	checkAssign(t, list, seen([2]int{4, 9}, [2]int{4, 0}), 9, 2)
	checkAssign(t, list, seen([2]int{0, 2}, [2]int{4, 0}), 2, 1)
	checkAssign(t, list, seen([2]int{4, 0}, [2]int{90, 2}), 1, 2)
	checkAssign(t, list, seen([2]int{4, 0}, [2]int{4, 0}, [2]int{90, 2}), 1, 0, 2)
	checkAssign(t, list, seen([2]int{4, 0}, [2]int{90, 1}, [2]int{90, 2}), 0, 1, 2)
	checkAssign(t, list, seen([2]int{4, 2}, [2]int{4, 1}), 2, 1)
	checkAssign(t, expects([3]int{math.MaxInt, 4, 4}), unread(4), math.MaxInt)
	checkAssign(t, expects([3]int{math.MaxInt, 4, 4}), seen([2]int{4, 0}, [2]int{4, math.MaxInt}), 0, math.MaxInt)
}

func TestAssignTakesTheLeastToAndTheLeastBag(t *testing.T) {
	for range 30 {
		checkAssign(t, expects([3]int{4, 0, 9}, [3]int{3, 0, 9}, [3]int{5, 0, 9}), unread(2, 3, 4, 5), 3, 4, 5, 0)
		checkAssign(t, expects([3]int{4, 0, 9}, [3]int{3, 3, 9}, [3]int{5, 0, 8}), unread(2, 3, 4), 5, 3, 4)
		checkAssign(t, expects([3]int{1, 0, 9}, [3]int{2, 0, 8}, [3]int{3, 0, 7}), unread(7, 7, 7), 3, 2, 1)
		checkAssign(t, expects([3]int{3, 0, 9}, [3]int{2, 0, 8}, [3]int{1, 8, 8}), unread(7, 8, 9), 2, 1, 3)
		checkAssign(t, expects([3]int{10, 0, 9}, [3]int{9, 0, 9}), unread(0), 9)
	}
	checkAssign(t, expects([3]int{1, 3, 6}), unread(2), 0)
	checkAssign(t, expects([3]int{1, 3, 6}), unread(3), 1)
	checkAssign(t, expects([3]int{1, 3, 6}), unread(6), 1)
	checkAssign(t, expects([3]int{1, 3, 6}), unread(7), 0)
	checkAssign(t, expects([3]int{1, 0, 0}, [3]int{2, 100000, 100000}), unread(0, 100000), 1, 2)
}

func isNamed(sights []impl.Sight, bag int) bool {
	for _, sight := range sights {
		if sight.Bag == bag {
			return true
		}
	}
	return false
}

func fitsPlainly(s scene, i int, e impl.Expect) bool {
	return s.sights[i].Bag == 0 && !isNamed(s.sights, e.Bag) && e.From <= s.sights[i].Time && s.sights[i].Time <= e.To
}

// plainAssign looks, for each sight, through all elements for one before which no other one comes.
func plainAssign(s scene) []int {
	bags := []int{}
	for i, sight := range s.sights {
		best := impl.Expect{}
		for _, e := range s.list {
			if !fitsPlainly(s, i, e) || slices.Contains(bags, e.Bag) {
				continue
			}
			if best.Bag == 0 || e.To < best.To || e.To == best.To && e.Bag < best.Bag {
				best = e
			}
		}
		bags = append(bags, sight.Bag+best.Bag)
	}
	return bags
}

func TestAssignOfSmallAndRandomScenes(t *testing.T) {
	for _, s := range append(smallScenes(), randomScenes(3000)...) {
		checkAssign(t, s.list, s.sights, plainAssign(s)...)
	}
}

func checkMissing(t *testing.T, list []impl.Expect, sights []impl.Sight, now int, want ...int) {
	t.Helper()
	if got := impl.Missing(list, sights, now); !slices.Equal(got, want) {
		t.Errorf("Missing(%v, %v, %d) = %v, want %v", list, sights, now, got, want)
	}
}

func TestMissing(t *testing.T) {
	list := expects([3]int{8, 0, 10}, [3]int{2, 3, 5}, [3]int{5, 4, 7})
	checkMissing(t, list, nil, 5)
	checkMissing(t, list, nil, 6, 2)
	checkMissing(t, list, nil, 7, 2)
	checkMissing(t, list, nil, 8, 2, 5)
	checkMissing(t, list, nil, 10, 2, 5)
	checkMissing(t, list, nil, 11, 8, 2, 5)
	checkMissing(t, list, nil, math.MaxInt, 8, 2, 5)
	checkMissing(t, list, nil, -1)
	checkMissing(t, list, nil, math.MinInt)
	checkMissing(t, list, unread(4), 20, 8, 5)
	checkMissing(t, list, unread(4, 6), 20, 8)
	checkMissing(t, list, unread(4, 6, 10), 20)
	checkMissing(t, list, unread(1, 10), 20, 2, 5)
	// A bag that is named is not missing, whenever its sight was; no other one is taken for it.
	checkMissing(t, list, seen([2]int{90, 2}), 20, 8, 5)
	checkMissing(t, list, seen([2]int{0, 8}, [2]int{4, 0}), 20, 5)
	checkMissing(t, list, seen([2]int{4, 77}), 20, 8, 2, 5)
	checkMissing(t, list, seen([2]int{4, 8}, [2]int{4, 5}, [2]int{4, 2}), 20)
	checkMissing(t, nil, nil, 20)
	checkMissing(t, nil, seen([2]int{4, 77}), 20)
	checkMissing(t, expects([3]int{1, 0, 0}), nil, 0)
	checkMissing(t, expects([3]int{1, 0, 0}), nil, 1, 1)
	checkMissing(t, expects([3]int{1, 0, 100000}), nil, 100000)
	checkMissing(t, expects([3]int{1, 0, 100000}), nil, 100001, 1)
	checkMissing(t, manyExpects(6), unread(5, 5), 100001, 3, 4, 5, 6)
}

func TestMissingOfSmallAndRandomScenes(t *testing.T) {
	for _, s := range append(smallScenes(), randomScenes(3000)...) {
		bags := plainAssign(s)
		for _, now := range []int{0, 1, 2, 3, 6, 50000, 100001} {
			want := []int{}
			for _, e := range s.list {
				if e.To < now && !slices.Contains(bags, e.Bag) {
					want = append(want, e.Bag)
				}
			}
			checkMissing(t, s.list, s.sights, now, want...)
		}
	}
}
