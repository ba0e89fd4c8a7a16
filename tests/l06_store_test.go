package tests

import (
	"math"
	"slices"
	"testing"

	"loop.example/g03319/impl"
)

func TestStoreConstants(t *testing.T) {
	got := []int{impl.MaxLanes, impl.MaxDeep, impl.MaxExactKept}
	want := []int{4, 5, 5}
	if !slices.Equal(got, want) {
		t.Errorf("constants are %v, want %v", got, want)
	}
}

// lane returns a lane of bags that are given as bag and time, the one in front last.
func lane(pairs ...[2]int) []impl.Kept {
	list := []impl.Kept{}
	for _, v := range pairs {
		list = append(list, impl.Kept{Bag: v[0], Time: v[1]})
	}
	return list
}

func store(deep int, lanes ...[]impl.Kept) impl.Store {
	return impl.Store{Deep: deep, Lanes: lanes}
}

// times returns a store with bags of these times in its lanes; the bags are numbered from 1 on.
func times(deep int, lanes ...[]int) impl.Store {
	s := impl.Store{Deep: deep}
	bag := 0
	for _, list := range lanes {
		kept := []impl.Kept{}
		for _, time := range list {
			bag++
			kept = append(kept, impl.Kept{Bag: bag, Time: time})
		}
		s.Lanes = append(s.Lanes, kept)
	}
	return s
}

// row returns count bags from the first one on, all of one time.
func row(first, count, time int) []impl.Kept {
	list := []impl.Kept{}
	for i := range count {
		list = append(list, impl.Kept{Bag: first + i, Time: time})
	}
	return list
}

func sameStore(a, b impl.Store) bool {
	return a.Deep == b.Deep && slices.EqualFunc(a.Lanes, b.Lanes, slices.Equal[[]impl.Kept])
}

// storeCopy returns the store with lanes of its own.
func storeCopy(s impl.Store) impl.Store {
	c := impl.Store{Deep: s.Deep}
	for _, lane := range s.Lanes {
		c.Lanes = append(c.Lanes, slices.Clone(lane))
	}
	return c
}

// withKept returns the store with one more bag in front of the others of a lane.
func withKept(s impl.Store, lane, bag, time int) impl.Store {
	c := storeCopy(s)
	c.Lanes[lane] = append(c.Lanes[lane], impl.Kept{Bag: bag, Time: time})
	return c
}

// twoLanes is a store in which bag 2 is before bag 1, and bag 3 has a lane of its own.
func twoLanes() impl.Store {
	return store(3, lane([2]int{1, 5}, [2]int{2, 9}), lane([2]int{3, 7}))
}

// fullStore is a store that has as much of everything as it may have.
func fullStore() impl.Store {
	return store(impl.MaxDeep, row(1, 5, 0), row(11, 5, impl.MaxTick), row(21, 5, 7), row(31, 5, 7))
}

// mended returns twoLanes as it is after the change.
func mended(change func(s *impl.Store)) impl.Store {
	s := twoLanes()
	change(&s)
	return s
}

// invalidStores are stores each of which is invalid in a way that StoreOk names. In most of them bags could be put, or
// taken out, if that were not checked.
func invalidStores() map[string]impl.Store {
	list := map[string]impl.Store{
		"zero":                      {},
		"no lane":                   store(3),
		"5 lanes":                   store(3, lane([2]int{1, 5}), lane([2]int{2, 9}), nil, nil, nil),
		"5 empty lanes":             store(3, nil, nil, nil, nil, nil),
		"5 lanes, bag in last one":  store(3, nil, nil, nil, nil, lane([2]int{1, 5}, [2]int{2, 9})),
		"2 bags in Deep 1":          store(1, row(1, 2, 5), nil),
		"2 bags in last Deep 1":     store(1, nil, row(1, 2, 5)),
		"4 bags in Deep 3":          store(3, nil, row(1, 4, 5), nil),
		"6 bags in Deep 5":          store(5, row(1, 6, 5), nil),
		"6 bags in last Deep 5":     store(5, nil, nil, nil, row(1, 6, 5)),
		"6 bags in Deep 6":          store(6, row(1, 6, 5), nil),
		"greatest Deep, 1000 lanes": store(math.MaxInt, make([][]impl.Kept, 1000)...),
	}
	for name, n := range map[string]int{"0": 0, "-1": -1, "6": 6, "least": math.MinInt, "greatest": math.MaxInt} {
		list["Deep "+name] = mended(func(s *impl.Store) { s.Deep = n })
		list["empty, Deep "+name] = store(n, nil, nil)
	}
	for name, n := range map[string]int{"0": 0, "-1": -1, "least": math.MinInt} {
		list["first bag "+name] = mended(func(s *impl.Store) { s.Lanes[0][0].Bag = n })
		list["bag in front "+name] = mended(func(s *impl.Store) { s.Lanes[0][1].Bag = n })
		list["last bag "+name] = mended(func(s *impl.Store) { s.Lanes[1][0].Bag = n })
	}
	for name, n := range map[string]int{"-1": -1, "100001": 100001, "least": math.MinInt, "greatest": math.MaxInt} {
		list["first time "+name] = mended(func(s *impl.Store) { s.Lanes[0][0].Time = n })
		list["time in front "+name] = mended(func(s *impl.Store) { s.Lanes[0][1].Time = n })
		list["last time "+name] = mended(func(s *impl.Store) { s.Lanes[1][0].Time = n })
	}
	list["same bag in one lane"] = mended(func(s *impl.Store) { s.Lanes[0][1].Bag = 1 })
	list["same bag and time in one lane"] = mended(func(s *impl.Store) { s.Lanes[0][1] = s.Lanes[0][0] })
	list["same bag in two lanes"] = mended(func(s *impl.Store) { s.Lanes[1][0].Bag = 1 })
	list["same bag in front of two lanes"] = mended(func(s *impl.Store) { s.Lanes[1][0].Bag = 2 })
	list["same bag and time in two lanes"] = mended(func(s *impl.Store) { s.Lanes[1][0] = s.Lanes[0][0] })
	list["same bag in first and last lane"] = store(2, row(1, 2, 5), row(3, 1, 5), nil, row(2, 1, 5))
	list["same bag first and last in a lane"] = store(5, nil, lane([2]int{1, 5}, [2]int{2, 6}, [2]int{1, 7}))
	return list
}

func TestStoreOk(t *testing.T) {
	for name, s := range map[string]impl.Store{
		"two lanes":           twoLanes(),
		"full":                fullStore(),
		"1 empty lane":        store(1, nil),
		"4 empty lanes":       store(5, nil, nil, nil, nil),
		"lane without memory": store(1, []impl.Kept{}, nil),
		"1 bag in Deep 1":     store(1, row(7, 1, 0)),
		"5 bags in Deep 5":    store(5, nil, row(7, 5, 100000)),
		"greatest bag":        store(2, row(math.MaxInt-1, 2, 5)),
		"least bag":           store(1, row(1, 1, 5), row(2, 1, 5)),
		"bags out of order":   store(3, lane([2]int{9, 1}, [2]int{2, 1}, [2]int{5, 0})),
		"bag 5 at time 5":     store(3, row(5, 1, 6), row(6, 1, 5)),
	} {
		if !impl.StoreOk(s) {
			t.Errorf("StoreOk(%s: %v) = false", name, s)
		}
	}
}

func TestStoreOkInvalid(t *testing.T) {
	for name, s := range invalidStores() {
		if impl.StoreOk(s) {
			t.Errorf("StoreOk(%s: %v) = true", name, s)
		}
	}
}

func checkStoreOk(t *testing.T, s impl.Store, want bool, what string, n int) {
	t.Helper()
	if got := impl.StoreOk(s); got != want {
		t.Errorf("StoreOk with %s %d = %v", what, n, got)
	}
}

func TestStoreOkLimits(t *testing.T) {
	for n := -2; n <= 9; n++ {
		some := max(n, 0)
		checkStoreOk(t, store(n, nil), n >= 1 && n <= 5, "no bags and Deep", n)
		checkStoreOk(t, store(n, row(1, 1, 5)), n >= 1 && n <= 5, "a bag and Deep", n)
		checkStoreOk(t, store(n, row(1, 3, 5), row(4, 3, 5)), n >= 3 && n <= 5, "lanes of 3 bags and Deep", n)
		checkStoreOk(t, store(2, make([][]impl.Kept, some)...), n >= 1 && n <= 4, "empty lanes", n)
		for deep := 1; deep <= 5; deep++ {
			checkStoreOk(t, store(deep, row(1, some, 5)), n <= deep, "bags in the only lane", n)
			checkStoreOk(t, store(deep, nil, nil, row(8, 1, 3), row(21, some, 5)), n <= deep, "bags in the last lane", n)
		}
		checkStoreOk(t, store(5, row(8, 2, 3), lane([2]int{7, 4}, [2]int{n, 4})), n >= 1 && n != 7 && n != 8 && n != 9, "bag", n)
		full := store(5)
		for i := range some {
			full.Lanes = append(full.Lanes, row(10*i+1, 5, i))
		}
		checkStoreOk(t, full, n >= 1 && n <= 4, "full lanes", n)
	}
	for _, time := range []int{math.MinInt, -100000, -1, 0, 1, 99999, 100000, 100001, math.MaxInt} {
		ok := time >= 0 && time <= 100000
		checkStoreOk(t, store(2, row(1, 1, time)), ok, "only time", time)
		checkStoreOk(t, store(2, nil, row(8, 1, 3), lane([2]int{7, 4}, [2]int{1, time})), ok, "last time", time)
	}
}

// plainStoreOk looks at each pair of bags.
func plainStoreOk(s impl.Store) bool {
	ok := s.Deep >= 1 && s.Deep <= 5 && len(s.Lanes) >= 1 && len(s.Lanes) <= 4
	for i, lane := range s.Lanes {
		ok = ok && len(lane) <= s.Deep
		for j, kept := range lane {
			ok = ok && kept.Bag >= 1 && kept.Time >= 0 && kept.Time <= 100000
			for i2, lane2 := range s.Lanes {
				for j2, kept2 := range lane2 {
					ok = ok && (kept.Bag != kept2.Bag || i == i2 && j == j2)
				}
			}
		}
	}
	return ok
}

func TestStoreOkOfSmallStores(t *testing.T) {
	counts := map[bool]int{}
	for n := range 1 << 16 {
		digit := func(i int) int { return n >> (2 * i) & 3 }
		s := store(digit(0), row(digit(1), digit(2), digit(3)-1), lane([2]int{digit(4), 100000}, [2]int{digit(5) + 2, 99998 + digit(6)}))
		s.Lanes = append(s.Lanes, make([][]impl.Kept, digit(7))...)
		counts[plainStoreOk(s)]++
		if got := impl.StoreOk(s); got != plainStoreOk(s) {
			t.Errorf("StoreOk(%v) = %v", s, got)
		}
	}
	if counts[true] < 1000 || counts[false] < 1000 {
		t.Errorf("few of the stores are valid, or few are not: %v", counts)
	}
}

func checkLane(t *testing.T, s impl.Store, time, but, want int) {
	t.Helper()
	if got := impl.LaneFor(s, time, but); got != want {
		t.Errorf("LaneFor(%v, %d, %d) = %d, want %d", s, time, but, got, want)
	}
}

// checkNotPut checks that the bag cannot be put into the store.
func checkNotPut(t *testing.T, s impl.Store, bag, time int) {
	t.Helper()
	if got, lane, ok := impl.PutBag(s, bag, time); !sameStore(got, s) || lane != -1 || ok {
		t.Errorf("PutBag(%v, %d, %d) = %v, %d, %v; want it unchanged", s, bag, time, got, lane, ok)
	}
}

func checkPut(t *testing.T, s impl.Store, bag, time, lane int) {
	t.Helper()
	want := withKept(s, lane, bag, time)
	if got, in, ok := impl.PutBag(s, bag, time); !sameStore(got, want) || in != lane || !ok {
		t.Errorf("PutBag(%v, %d, %d) = %v, %d, %v; want %v", s, bag, time, got, in, ok, want)
	}
}

func checkNotTaken(t *testing.T, s impl.Store, bag int) {
	t.Helper()
	if got, hops, ok := impl.TakeBag(s, bag); !sameStore(got, s) || len(hops) != 0 || ok {
		t.Errorf("TakeBag(%v, %d) = %v, %v, %v; want it unchanged", s, bag, got, hops, ok)
	}
}

func checkNoHops(t *testing.T, s impl.Store) {
	t.Helper()
	if got, ok := impl.HopsOf(s); got != 0 || ok {
		t.Errorf("HopsOf(%v) = %d, %v; want 0, false", s, got, ok)
	}
}

func checkNoLeastHops(t *testing.T, s impl.Store) {
	t.Helper()
	if got, ok := impl.LeastHops(s); got != 0 || ok {
		t.Errorf("LeastHops(%v) = %d, %v; want 0, false", s, got, ok)
	}
}

func TestInvalidStoresHaveFixedResults(t *testing.T) {
	for _, s := range invalidStores() {
		for _, n := range append(someNumbers(), 99, 100000, 100001) {
			checkLane(t, s, n, -1, -1)
			checkLane(t, s, n, 0, -1)
			checkLane(t, s, 5, n, -1)
			checkNotPut(t, s, n, 5)
			checkNotPut(t, s, 99, n)
			checkNotTaken(t, s, n)
		}
		if got := impl.Buried(s); got != -1 {
			t.Errorf("Buried(%v) = %d, want -1", s, got)
		}
		if got := impl.NextOut(s); got != 0 {
			t.Errorf("NextOut(%v) = %d, want 0", s, got)
		}
		checkNoHops(t, s)
		checkNoLeastHops(t, s)
	}
}

func TestLaneFor(t *testing.T) {
	s := twoLanes()
	for time, want := range map[int]int{0: 0, 4: 0, 5: 0, 6: 1, 7: 1, 8: 1, 9: 1, 10: 1, 100000: 1} {
		checkLane(t, s, time, -1, want)
		checkLane(t, s, time, 2, want)
		checkLane(t, s, time, 0, 1)
		checkLane(t, s, time, 1, 0)
	}
	// Between lanes whose bags are later and earlier ones there is an empty lane.
	s = times(2, []int{3}, []int{9}, []int{}, []int{6})
	for time, want := range map[int]int{0: 0, 3: 0, 4: 3, 6: 3, 7: 1, 9: 1, 10: 2, 100000: 2} {
		checkLane(t, s, time, -1, want)
	}
	checkLane(t, s, 2, 0, 3)
	checkLane(t, s, 5, 3, 1)
	checkLane(t, s, 8, 1, 2)
	checkLane(t, s, 10, 2, 1)
	checkLane(t, s, 2, 2, 0)
}

func TestLaneForLooksAtTheLeastTimeOfALane(t *testing.T) {
	for _, first := range [][]int{{2, 8}, {8, 2}, {2, 8, 9}, {9, 2, 8}, {9, 8, 2}} {
		s := times(4, first, []int{5})
		for time, want := range map[int]int{0: 0, 2: 0, 3: 1, 5: 1, 6: 1, 8: 1, 9: 1, 10: 1} {
			checkLane(t, s, time, -1, want)
		}
	}
}

func TestLaneForOfLanesWithTheSameLeastTime(t *testing.T) {
	s := times(3, []int{9, 4}, []int{4}, []int{4, 4}, []int{8})
	for time, want := range map[int]int{3: 0, 4: 0, 5: 3, 8: 3, 9: 3} {
		checkLane(t, s, time, -1, want)
	}
	checkLane(t, s, 4, 0, 1)
	checkLane(t, s, 4, 1, 0)
	checkLane(t, s, 9, 3, 0)
	s = times(3, []int{1}, []int{7}, []int{}, []int{7, 7, 7})
	checkLane(t, s, 7, -1, 1)
	checkLane(t, s, 7, 1, 2)
	// The bag with the lesser number is in the later lane.
	s = store(3, row(9, 1, 7), row(2, 1, 7))
	checkLane(t, s, 7, -1, 0)
	checkLane(t, s, 8, -1, 0)
	checkLane(t, s, 6, -1, 0)
}

func TestLaneForOfEmptyLanes(t *testing.T) {
	for lanes := 1; lanes <= 4; lanes++ {
		s := store(2, make([][]impl.Kept, lanes)...)
		for _, time := range []int{0, 1, 99999, 100000} {
			checkLane(t, s, time, -1, 0)
			checkLane(t, s, time, lanes, 0)
			for but := 1; but < lanes; but++ {
				checkLane(t, s, time, but, 0)
			}
		}
	}
	checkLane(t, store(2, nil), 5, 0, -1)
	checkLane(t, store(2, nil, nil), 5, 0, 1)
	checkLane(t, store(1, row(1, 1, 9), nil, nil), 9, -1, 1)
	checkLane(t, store(1, row(1, 1, 9), nil, nil), 9, 1, 2)
}

func TestLaneForLeavesOutFullLanes(t *testing.T) {
	s := times(2, []int{5, 6}, []int{9}, []int{7, 7})
	for _, time := range []int{0, 5, 6, 7, 8, 9, 10} {
		checkLane(t, s, time, -1, 1)
		checkLane(t, s, time, 0, 1)
		checkLane(t, s, time, 2, 1)
		checkLane(t, s, time, 1, -1)
		for but := -1; but <= 4; but++ {
			checkLane(t, fullStore(), time, but, -1)
			checkLane(t, times(1, []int{4}), time, but, -1)
		}
	}
	// A lane has room for one more bag until it has five.
	for count := range 6 {
		s := store(5, row(1, count, 9))
		checkLane(t, s, 9, -1, []int{0, 0, 0, 0, 0, -1}[count])
		checkLane(t, s, 9, 0, -1)
	}
}

func TestLaneForOfAnyTimesAndLanes(t *testing.T) {
	for _, but := range []int{math.MinInt, -4, -2, -1, 2, 3, 4, 5, math.MaxInt} {
		checkLane(t, twoLanes(), 6, but, 1)
		checkLane(t, twoLanes(), 5, but, 0)
		for _, time := range []int{math.MinInt, -100000, -1, 100001, math.MaxInt} {
			checkLane(t, twoLanes(), time, but, -1)
			checkLane(t, store(3, nil), time, but, -1)
		}
	}
	s := times(2, []int{0}, []int{100000})
	for time, want := range map[int]int{0: 0, 1: 1, 99999: 1, 100000: 1} {
		checkLane(t, s, time, -1, want)
	}
	checkLane(t, s, 100000, 1, 0)
	checkLane(t, s, 0, 0, 1)
}

func TestPutBag(t *testing.T) {
	checkPut(t, twoLanes(), 4, 6, 1)
	checkPut(t, twoLanes(), 4, 5, 0)
	checkPut(t, twoLanes(), math.MaxInt, 0, 0)
	checkPut(t, twoLanes(), 4, 100000, 1)
	checkPut(t, store(1, nil), 1, 0, 0)
	checkPut(t, times(1, []int{4}, []int{}, []int{}), 9, 4, 1)
	checkPut(t, times(2, []int{4, 5}, []int{}, []int{3}), 9, 4, 1)
	for _, bag := range append(someNumbers(), 6, 9, 10) {
		if bag < 1 || bag <= 3 {
			checkNotPut(t, twoLanes(), bag, 6)
		} else {
			checkPut(t, twoLanes(), bag, 6, 1)
		}
	}
	for _, time := range []int{math.MinInt, -1, 100001, math.MaxInt} {
		checkNotPut(t, twoLanes(), 4, time)
		checkNotPut(t, twoLanes(), 0, time)
		checkNotPut(t, store(1, nil), 4, time)
	}
	for _, time := range []int{0, 5, 7, 100000} {
		checkNotPut(t, fullStore(), 99, time)
		checkNotPut(t, fullStore(), 1, time)
		checkNotPut(t, times(1, []int{4}), 2, time)
	}
}

func TestPutBagsUntilTheStoreIsFull(t *testing.T) {
	for lanes := 1; lanes <= 4; lanes++ {
		for deep := 1; deep <= 5; deep++ {
			s := store(deep, make([][]impl.Kept, lanes)...)
			// Each bag is to be taken out before the ones before it.
			for i := range lanes * deep {
				checkPut(t, s, 100-i, 100-i, i/deep)
				s, _, _ = impl.PutBag(s, 100-i, 100-i)
			}
			checkNotPut(t, s, 1, 1)
			checkNotPut(t, s, 1, 1000)
			if got := impl.Buried(s); got != 0 {
				t.Errorf("Buried(%v) = %d, want 0", s, got)
			}
		}
	}
}

func checkBuried(t *testing.T, s impl.Store, want int) {
	t.Helper()
	if got := impl.Buried(s); got != want {
		t.Errorf("Buried(%v) = %d, want %d", s, got, want)
	}
}

func TestBuried(t *testing.T) {
	checkBuried(t, twoLanes(), 1)
	checkBuried(t, fullStore(), 0)
	checkBuried(t, store(1, nil), 0)
	checkBuried(t, times(1, []int{9}, []int{5}, []int{7}, []int{1}), 0)
	checkBuried(t, times(2, []int{9, 5}, []int{7, 7}), 0)
	checkBuried(t, times(2, []int{9, 5}, []int{7, 8}), 1)
	checkBuried(t, times(2, []int{5, 9}, []int{7, 8}), 2)
	// One bag that is earlier than others is enough, wherever it stands behind them; a bag counts once.
	checkBuried(t, times(5, []int{1, 2, 3, 4, 5}), 4)
	checkBuried(t, times(5, []int{5, 4, 3, 2, 1}), 0)
	checkBuried(t, times(5, []int{3, 9, 4, 9, 3}), 3)
	checkBuried(t, times(5, []int{9, 3, 4, 4, 2}), 2)
	checkBuried(t, times(5, []int{9, 8, 7, 6, 8}), 1)
	checkBuried(t, times(5, []int{1, 5, 5, 5, 5}, []int{0, 5, 4, 3, 2}, []int{2, 1, 2, 1, 2}, []int{0, 0, 0, 0, 100000}), 11)
	checkBuried(t, store(2, lane([2]int{2, 7}, [2]int{1, 7})), 0)
	checkBuried(t, store(2, lane([2]int{1, 7}, [2]int{2, 7})), 0)
	checkBuried(t, store(2, lane([2]int{2, 7}, [2]int{1, 8})), 1)
}

func checkNext(t *testing.T, s impl.Store, want int) {
	t.Helper()
	if got := impl.NextOut(s); got != want {
		t.Errorf("NextOut(%v) = %d, want %d", s, got, want)
	}
}

func TestNextOut(t *testing.T) {
	checkNext(t, twoLanes(), 1)
	checkNext(t, fullStore(), 1)
	checkNext(t, store(1, nil), 0)
	checkNext(t, store(5, nil, nil, nil, nil), 0)
	checkNext(t, store(1, nil, nil, row(math.MaxInt, 1, 100000)), math.MaxInt)
	checkNext(t, times(3, []int{9, 4, 6}, []int{5, 4, 3}), 6)
	checkNext(t, times(3, []int{9, 2, 6}, []int{5, 4, 3}), 2)
	checkNext(t, times(3, []int{9, 4, 6}, []int{}, []int{3, 4, 5}), 4)
	// Of several bags of one time it is the one with the least number, wherever it stands.
	checkNext(t, store(3, lane([2]int{7, 4}, [2]int{5, 4}, [2]int{6, 4})), 5)
	checkNext(t, store(3, row(7, 1, 4), row(5, 1, 4), row(6, 1, 4)), 5)
	checkNext(t, store(3, row(5, 1, 4), row(7, 1, 4), row(6, 1, 4)), 5)
	checkNext(t, store(3, row(2, 1, 5), row(7, 1, 4), nil, row(6, 1, 4)), 6)
	checkNext(t, store(3, row(1, 1, 1), row(7, 1, 0), nil, row(6, 1, 0)), 6)
}
