package tests

import (
	"math/rand"
	"slices"
	"testing"

	"loop.example/g03319/impl"
)

func checkHops(t *testing.T, s impl.Store, want int) {
	t.Helper()
	if got, ok := impl.HopsOf(s); got != want || !ok {
		t.Errorf("HopsOf(%v) = %d, %v; want %d", s, got, ok, want)
	}
}

func checkLeastHops(t *testing.T, s impl.Store, want int) {
	t.Helper()
	if got, ok := impl.LeastHops(s); got != want || !ok {
		t.Errorf("LeastHops(%v) = %d, %v; want %d", s, got, ok, want)
	}
}

// checkBothHops checks HopsOf and LeastHops.
func checkBothHops(t *testing.T, s impl.Store, hops, least int) {
	t.Helper()
	checkHops(t, s, hops)
	checkLeastHops(t, s, least)
}

func checkNeitherHops(t *testing.T, s impl.Store) {
	t.Helper()
	checkNoHops(t, s)
	checkNoLeastHops(t, s)
}

func TestHops(t *testing.T) {
	checkBothHops(t, twoLanes(), 2, 2)
	checkBothHops(t, store(1, nil), 0, 0)
	checkBothHops(t, store(5, nil, nil, nil, nil), 0, 0)
	checkBothHops(t, times(1, []int{9}), 0, 0)
	checkBothHops(t, times(1, []int{9}, []int{2}, []int{5}, []int{0}), 0, 0)
	checkBothHops(t, times(5, []int{9, 8, 7, 6, 5}), 0, 0)
	checkBothHops(t, times(2, []int{1, 2}, []int{}), 1, 1)
	checkBothHops(t, times(2, []int{1, 2}, []int{3}), 1, 1)
	// Bags that hop come into the way of others, and hop again.
	checkBothHops(t, times(3, []int{1, 3, 4}, []int{2}), 5, 5)
	checkBothHops(t, times(4, []int{1, 2, 3, 4}, []int{}), 3, 3)
	checkBothHops(t, times(4, []int{1, 4, 3, 2}, []int{}), 5, 5)
	checkBothHops(t, times(4, []int{1, 4, 3, 2}, []int{}, []int{}), 4, 4)
}

func TestHopsOfBagsWithTheSameTime(t *testing.T) {
	checkBothHops(t, store(2, lane([2]int{2, 7}, [2]int{1, 7})), 0, 0)
	checkNeitherHops(t, store(2, lane([2]int{1, 7}, [2]int{2, 7})))
	checkBothHops(t, store(2, lane([2]int{1, 7}, [2]int{2, 7}), nil), 1, 1)
	checkBothHops(t, store(2, row(4, 1, 7), lane([2]int{2, 7}, [2]int{3, 7})), 1, 1)
	checkBothHops(t, store(2, row(2, 1, 7), row(3, 1, 7), row(1, 1, 7)), 0, 0)
	checkNeitherHops(t, store(3, lane([2]int{3, 7}, [2]int{5, 7}, [2]int{4, 7}), row(1, 2, 7)))
	checkBothHops(t, store(4, lane([2]int{3, 7}, [2]int{5, 7}, [2]int{4, 7}), row(1, 2, 7)), 4, 4)
}

func TestHopsThatAreTooMany(t *testing.T) {
	// By the rule bag 8 hops onto bag 2, which has the same time, but is taken out earlier.
	checkBothHops(t, store(2, lane([2]int{5, 3}, [2]int{8, 3}), row(2, 1, 3), row(7, 1, 3)), 2, 1)
	checkBothHops(t, store(2, lane([2]int{5, 3}, [2]int{8, 4}), lane([2]int{2, 3}, [2]int{7, 4}), nil), 3, 2)
	checkBothHops(t, store(3, row(5, 1, 3), lane([2]int{8, 3}, [2]int{2, 4}, [2]int{7, 4}), row(1, 1, 4)), 5, 2)
	checkBothHops(t, store(5, lane([2]int{2, 0}, [2]int{4, 0}), nil, lane([2]int{1, 0}, [2]int{5, 0}, [2]int{3, 0}), nil), 6, 3)
	checkBothHops(t, store(4, nil, lane([2]int{2, 1}, [2]int{4, 1}), lane([2]int{3, 1}, [2]int{1, 0}, [2]int{5, 1}), nil), 6, 2)
}

func TestHopsAreFromTheLaneOfTheNextBagAlone(t *testing.T) {
	// If bag 1 hopped to the empty lane before bag 8, three hops would do.
	checkLeastHops(t, store(3, lane([2]int{5, 3}, [2]int{8, 4}), lane([2]int{2, 4}, [2]int{7, 5}, [2]int{1, 5}), nil), 4)
	// If bag 8 hopped there before bag 1, two would do.
	checkLeastHops(t, store(3, lane([2]int{5, 4}, [2]int{8, 5}), lane([2]int{2, 5}, [2]int{7, 3}, [2]int{1, 5}), nil), 3)
}

func TestStoresWhoseBagsCannotBeTakenOut(t *testing.T) {
	checkNeitherHops(t, times(2, []int{1, 2}))
	checkNeitherHops(t, times(5, []int{5, 4, 3, 1, 2}))
	checkNeitherHops(t, times(2, []int{1, 2}, []int{3, 4}))
	checkNeitherHops(t, times(3, []int{1, 2, 3}, []int{4, 5}))
	checkNeitherHops(t, fullStore())
	// Some bags can be taken out, but not the next one.
	checkNeitherHops(t, times(3, []int{3, 9, 1}))
	checkNeitherHops(t, times(5, []int{5, 9, 3, 2, 1}))
	checkNeitherHops(t, times(3, []int{2, 5, 6}, []int{3, 4, 1}))
	// With one place more they can.
	checkBothHops(t, times(2, []int{1, 2}, []int{3}), 1, 1)
	checkBothHops(t, times(4, []int{1, 2, 3}, []int{4, 5}), 3, 3)
	checkBothHops(t, times(2, []int{1, 2}, []int{3, 4}, []int{}), 2, 2)
}

func TestLeastHopsBagLimit(t *testing.T) {
	for count := range 21 {
		s := store(5, nil, nil, nil, nil)
		for i := range count {
			s = withKept(s, i/5, 100-i, 100-i)
		}
		checkHops(t, s, 0)
		if count <= 5 {
			checkLeastHops(t, s, 0)
		} else {
			checkNoLeastHops(t, s)
		}
	}
	checkBothHops(t, times(5, []int{1, 2, 3, 4, 5}, []int{}, []int{}, []int{}), 4, 4)
	checkBothHops(t, times(5, []int{1, 2}, []int{3, 4}, []int{5}), 2, 2)
	checkHops(t, times(5, []int{1, 2}, []int{3, 4}, []int{5}, []int{6}), 2)
	checkNoLeastHops(t, times(5, []int{1, 2}, []int{3, 4}, []int{5}, []int{6}))
	checkNoLeastHops(t, times(5, []int{1, 2}, []int{3, 4}, []int{5, 6}))
	checkNoLeastHops(t, times(2, []int{2, 1}, []int{2, 1}, []int{2, 1}))
}

// plainLeast tries all ways to take the bags out; it returns -1 if there is none.
func plainLeast(s impl.Store) int {
	order := plainOrder(s)
	if len(order) == 0 {
		return 0
	}
	from, at := plainPlace(s, order[0])
	last := len(s.Lanes[from]) - 1
	without := storeCopy(s)
	without.Lanes[from] = without.Lanes[from][:last]
	if at == last {
		return plainLeast(without)
	}
	least := -1
	for to := range s.Lanes {
		if to == from || len(s.Lanes[to]) == s.Deep {
			continue
		}
		rest := plainLeast(withKept(without, to, s.Lanes[from][last].Bag, s.Lanes[from][last].Time))
		if rest != -1 && (least == -1 || rest+1 < least) {
			least = rest + 1
		}
	}
	return least
}

func TestHopsOfSmallAndRandomStores(t *testing.T) {
	counts := map[bool]int{}
	for _, s := range append(smallStores(), randomStores(10000, 20)...) {
		want := plainHops(s)
		counts[want == -1]++
		if want == -1 {
			checkNoHops(t, s)
		} else {
			checkHops(t, s, want)
		}
	}
	if counts[true] < 1000 || counts[false] < 1000 {
		t.Errorf("few of the stores can be dug out, or few cannot: %v", counts)
	}
}

func TestLeastHopsOfSmallAndRandomStores(t *testing.T) {
	counts := map[int]int{}
	for _, s := range append(smallStores(), randomStores(10000, impl.MaxExactKept)...) {
		want := plainLeast(s)
		counts[want]++
		if want == -1 {
			checkNoLeastHops(t, s)
		} else {
			checkLeastHops(t, s, want)
		}
	}
	for want := -1; want <= 5; want++ {
		if counts[want] < 20 {
			t.Errorf("few of the stores need %d hops: %v", want, counts)
		}
	}
}

func TestLeastHopsOfStoresWithFiveBagsInALane(t *testing.T) {
	r := rand.New(rand.NewSource(20))
	for range 200 {
		s := store(5, make([][]impl.Kept, 2+r.Intn(3))...)
		at := r.Intn(len(s.Lanes))
		for i, time := range r.Perm(5) {
			s = withKept(s, at, 7*i+1, time)
		}
		checkLeastHops(t, s, plainLeast(s))
		checkHops(t, s, plainHops(s))
	}
}

// checkKept checks that the bags of two stores are the same ones, with the same times, but for one bag of the first one.
func checkKept(t *testing.T, s, after impl.Store, but int) {
	t.Helper()
	before := map[impl.Kept]int{}
	for _, lane := range s.Lanes {
		for _, kept := range lane {
			before[kept]++
		}
	}
	for _, lane := range after.Lanes {
		for _, kept := range lane {
			before[kept]--
		}
	}
	for kept, count := range before {
		if kept.Bag == but != (count == 1) || count < 0 {
			t.Errorf("bag %v of %v is there %d times less in %v", kept, s, count, after)
		}
	}
}

func TestABagNeedsAsManyHopsAsBagsStandInFrontOfIt(t *testing.T) {
	for _, s := range append(smallStores(), randomStores(5000, 20)...) {
		for from, lane := range s.Lanes {
			for at, kept := range lane {
				after, hops, ok := impl.TakeBag(s, kept.Bag)
				if !ok {
					continue
				}
				if len(hops) != len(lane)-1-at || !impl.StoreOk(after) || !slices.Equal(after.Lanes[from], lane[:at]) {
					t.Errorf("TakeBag(%v, %d) = %v, %v", s, kept.Bag, after, hops)
				}
				for i, hop := range hops {
					if hop.Bag != lane[len(lane)-1-i].Bag || hop.From != from || hop.To == from {
						t.Errorf("TakeBag(%v, %d) has the hops %v", s, kept.Bag, hops)
					}
				}
				checkKept(t, s, after, kept.Bag)
			}
		}
	}
}

func TestABagThatIsPutCanBeTakenOutAgain(t *testing.T) {
	for _, s := range append(smallStores(), randomStores(3000, 20)...) {
		for _, time := range []int{0, 4, 5, 100000} {
			with, lane, ok := impl.PutBag(s, 501, time)
			if !ok {
				continue
			}
			if !impl.StoreOk(with) || lane != impl.LaneFor(s, time, -1) {
				t.Errorf("PutBag(%v, 501, %d) = %v, %d", s, time, with, lane)
			}
			checkTaken(t, with, 501, s)
		}
	}
}

// randomDig takes the bags out in their order, by hops into any lanes; it returns the number of hops, or -1 if it gets stuck.
func randomDig(r *rand.Rand, s impl.Store) int {
	count := 0
	for _, bag := range plainOrder(s) {
		from, at := plainPlace(s, bag)
		for len(s.Lanes[from])-1 > at {
			lanes := slices.DeleteFunc(numbers(0, len(s.Lanes)), func(to int) bool { return to == from || len(s.Lanes[to]) == s.Deep })
			if len(lanes) == 0 {
				return -1
			}
			kept := s.Lanes[from][len(s.Lanes[from])-1]
			s = withKept(s, lanes[r.Intn(len(lanes))], kept.Bag, kept.Time)
			s.Lanes[from] = s.Lanes[from][:len(s.Lanes[from])-1]
			count++
		}
		s = storeCopy(s)
		s.Lanes[from] = s.Lanes[from][:at]
	}
	return count
}

func TestNoWayHasFewerHopsThanTheLeastNumber(t *testing.T) {
	r := rand.New(rand.NewSource(21))
	fewer := 0
	for _, s := range append(smallStores(), randomStores(5000, impl.MaxExactKept)...) {
		least, can := impl.LeastHops(s)
		for range 5 {
			if got := randomDig(r, s); got != -1 && (got < least || !can) {
				t.Errorf("the bags of %v can be dug out with %d hops, but LeastHops returns %d, %v", s, got, least, can)
			}
		}
		hops, ok := impl.HopsOf(s)
		if ok && (hops < least || !can) || can && least < impl.Buried(s) {
			t.Errorf("of %v %d bags are buried; LeastHops returns %d, %v; HopsOf %d, %v", s, impl.Buried(s), least, can, hops, ok)
		}
		if ok && hops > least {
			fewer++
		}
	}
	if fewer < 100 {
		t.Errorf("in only %d stores TakeBag needs more hops than the least number", fewer)
	}
}

func TestHopsAreAtLeastTheBuriedBags(t *testing.T) {
	for _, s := range randomStores(10000, 20) {
		if hops, ok := impl.HopsOf(s); ok && hops < impl.Buried(s) {
			t.Errorf("of %v %d bags are buried, but HopsOf returns %d", s, impl.Buried(s), hops)
		}
	}
}

func TestHopsOfIsTakingTheNextBagAgainAndAgain(t *testing.T) {
	for _, s := range append(smallStores(), randomStores(5000, 20)...) {
		left, count, can := s, 0, true
		for bag := impl.NextOut(left); bag != 0 && can; bag = impl.NextOut(left) {
			after, hops, ok := impl.TakeBag(left, bag)
			left, count, can = after, count+len(hops), ok
		}
		if got, ok := impl.HopsOf(s); ok != can || ok && got != count {
			t.Errorf("HopsOf(%v) = %d, %v; want %d, %v", s, got, ok, count, can)
		}
	}
}

// spoilLanes overwrites a result and the memory behind it.
func spoilLanes(s impl.Store) {
	for _, lane := range s.Lanes[:cap(s.Lanes)] {
		spoilLane(lane)
	}
	clear(s.Lanes[:cap(s.Lanes)])
}

func spoilLane(lane []impl.Kept) {
	for i := range lane[:cap(lane)] {
		lane[:cap(lane)][i] = impl.Kept{Bag: -7, Time: -7}
	}
}

// resultsOn calls each function on the store, and returns the stores that result from it.
func resultsOn(s impl.Store) []impl.Store {
	impl.StoreOk(s)
	impl.Buried(s)
	impl.NextOut(s)
	impl.HopsOf(s)
	impl.LeastHops(s)
	list := []impl.Store{}
	for _, n := range append(plainOrder(s), -1, 0, 2, 501, 100001) {
		impl.LaneFor(s, n, n)
		impl.LaneFor(s, 5, n)
		with, _, _ := impl.PutBag(s, 501, n)
		list = append(list, with)
		with, _, _ = impl.PutBag(s, n, 5)
		list = append(list, with)
		after, hops, _ := impl.TakeBag(s, n)
		list = append(list, after)
		clear(hops[:cap(hops)])
	}
	return list
}

// withMemoryBehind returns the store with lanes that have memory behind them, and one more lane behind the last one.
func withMemoryBehind(s impl.Store) impl.Store {
	c := impl.Store{Deep: s.Deep}
	for _, lane := range append(slices.Clone(s.Lanes), nil) {
		c.Lanes = append(c.Lanes, append(slices.Clone(lane), row(901, 7, 9)...)[:len(lane)])
	}
	c.Lanes = c.Lanes[:len(s.Lanes)]
	return c
}

// inOneArray returns the store with lanes that lie one behind the other in memory.
func inOneArray(s impl.Store) impl.Store {
	all := slices.Concat(s.Lanes...)
	c := impl.Store{Deep: s.Deep}
	for _, lane := range s.Lanes {
		c.Lanes = append(c.Lanes, all[:len(lane)])
		all = all[len(lane):]
	}
	return c
}

// wholeMemory returns the store with all that is in the memory of its lanes and behind them.
func wholeMemory(s impl.Store) impl.Store {
	c := impl.Store{Deep: s.Deep}
	for _, lane := range s.Lanes[:cap(s.Lanes)] {
		c.Lanes = append(c.Lanes, lane[:cap(lane)])
	}
	return c
}

func storesToKeep() []impl.Store {
	list := append(randomStores(500, 20), twoLanes(), fullStore(), store(5, nil, row(1, 5, 7)))
	for _, s := range invalidStores() {
		if len(s.Lanes) < 10 {
			list = append(list, s)
		}
	}
	return list
}

func TestStoreArgumentsAreNotChanged(t *testing.T) {
	for _, s := range storesToKeep() {
		for _, arg := range []impl.Store{withMemoryBehind(s), inOneArray(s)} {
			kept := storeCopy(wholeMemory(arg))
			for _, result := range resultsOn(arg) {
				spoilLanes(result)
			}
			if got := wholeMemory(arg); !sameStore(got, kept) || !sameStore(arg, s) {
				t.Errorf("the store is %v after the calls, want %v", got, kept)
			}
		}
	}
}

func TestStoreResultsDoNotDependOnTheMemoryOfLanes(t *testing.T) {
	for _, s := range storesToKeep() {
		want := resultsOn(s)
		for _, arg := range []impl.Store{withMemoryBehind(s), inOneArray(s), s} {
			if got := resultsOn(arg); !slices.EqualFunc(got, want, sameStore) {
				t.Errorf("the results on %v are %v, want %v", s, got, want)
			}
		}
	}
}

// TestLanesOfAStoreShareNoMemory overwrites one lane of the result after the other; no other one may change.
func TestLanesOfAStoreShareNoMemory(t *testing.T) {
	for _, s := range storesToKeep() {
		for _, result := range append(resultsOn(inOneArray(s)), resultsOn(withMemoryBehind(s))...) {
			for i, lane := range result.Lanes {
				kept := storeCopy(result)
				spoilLane(lane)
				for j := range result.Lanes {
					if j != i && !slices.Equal(result.Lanes[j], kept.Lanes[j]) {
						t.Errorf("lanes %d and %d of %v share memory", i, j, kept)
					}
				}
				copy(lane, kept.Lanes[i])
			}
		}
	}
}

func TestHopsAreNewEachTime(t *testing.T) {
	for _, s := range randomStores(500, 20) {
		for _, bag := range plainOrder(s) {
			_, first, _ := impl.TakeBag(s, bag)
			kept := slices.Clone(first)
			clear(first[:cap(first)])
			if _, again, _ := impl.TakeBag(s, bag); !slices.Equal(again, kept) {
				t.Errorf("the hops of TakeBag(%v, %d) are %v, want %v", s, bag, again, kept)
			}
		}
	}
}
