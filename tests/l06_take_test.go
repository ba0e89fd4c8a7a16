package tests

import (
	"math/rand"
	"slices"
	"testing"

	"loop.example/g03319/impl"
)

// smallStores returns all stores of up to three lanes with up to three bags each and five bags in all, for three times.
func smallStores() []impl.Store {
	list := []impl.Store{}
	for deep := 1; deep <= 3; deep++ {
		for lanes := 1; lanes <= 3; lanes++ {
			list = addSmallStores(list, store(deep, make([][]impl.Kept, lanes)...), 0, []int{5, 8, 2, 7, 1})
		}
	}
	return list
}

// addSmallStores adds s and all stores that have some of these bags, in this order, in the lanes from a lane on.
func addSmallStores(list []impl.Store, s impl.Store, lane int, bags []int) []impl.Store {
	list = append(list, s)
	for ; lane < len(s.Lanes) && len(bags) > 0; lane++ {
		for time := 3; len(s.Lanes[lane]) < s.Deep && time <= 5; time++ {
			list = addSmallStores(list, withKept(s, lane, bags[0], time), lane, bags[1:])
		}
	}
	return list
}

// randomStores returns valid stores with up to so many bags each; in some of them many bags have the same time.
func randomStores(count, bags int) []impl.Store {
	r := rand.New(rand.NewSource(19))
	list := []impl.Store{}
	for range count {
		deep, lanes := 1+r.Intn(impl.MaxDeep), 1+r.Intn(impl.MaxLanes)
		s := store(deep, make([][]impl.Kept, lanes)...)
		limit := []int{2, 4, 9, 40, 100001}[r.Intn(5)]
		names := r.Perm(500)
		for _, name := range names[:r.Intn(min(deep*lanes, bags)+1)] {
			at := r.Intn(lanes)
			for len(s.Lanes[at]) == deep {
				at = (at + 1) % lanes
			}
			s = withKept(s, at, name+1, r.Intn(limit))
		}
		list = append(list, s)
	}
	return list
}

func countKept(s impl.Store) int {
	count := 0
	for _, lane := range s.Lanes {
		count += len(lane)
	}
	return count
}

func TestSmallAndRandomStores(t *testing.T) {
	small, random := smallStores(), randomStores(5000, 20)
	counts := map[int]int{}
	for _, s := range append(slices.Clone(small), random...) {
		counts[countKept(s)]++
		if !impl.StoreOk(s) {
			t.Errorf("StoreOk(%v) = false", s)
		}
	}
	if len(small) < 5000 || len(counts) != 21 {
		t.Errorf("there are %d small stores; the numbers of bags are %v", len(small), counts)
	}
}

// leastTime returns the least time of the bags of a lane, and whether it has bags.
func leastTime(lane []impl.Kept) (int, bool) {
	least := 1000000
	for _, kept := range lane {
		least = min(least, kept.Time)
	}
	return least, len(lane) > 0
}

// plainLane goes through the lanes three times: for the first one of the least times that are late enough, for the first
// empty one, and for the first one of the greatest least times.
func plainLane(s impl.Store, time, but int) int {
	later, empty, earlier := -1, -1, -1
	best, latest := 1000000, -1
	for i, lane := range s.Lanes {
		least, some := leastTime(lane)
		left := i != but && len(lane) < s.Deep
		if left && some && least >= time && least < best {
			later, best = i, least
		}
		if left && !some && empty == -1 {
			empty = i
		}
		if left && some && least > latest {
			earlier, latest = i, least
		}
	}
	for _, i := range []int{later, empty} {
		if i != -1 {
			return i
		}
	}
	return earlier
}

// plainTake puts the bags in front of the bag elsewhere, each as soon as it is known where, and cuts the lane off.
func plainTake(s impl.Store, bag int) (impl.Store, []impl.Hop, bool) {
	from, at := plainPlace(s, bag)
	if from == -1 {
		return s, nil, false
	}
	after := storeCopy(s)
	hops := []impl.Hop{}
	front := slices.Clone(s.Lanes[from][at+1:])
	slices.Reverse(front)
	for _, kept := range front {
		to := plainLane(after, kept.Time, from)
		if to == -1 {
			return s, nil, false
		}
		after = withKept(after, to, kept.Bag, kept.Time)
		hops = append(hops, impl.Hop{Bag: kept.Bag, From: from, To: to})
	}
	after.Lanes[from] = after.Lanes[from][:at]
	return after, hops, true
}

// plainPlace returns the lane in which the bag is and its place there; -1 and -1 if it is in none.
func plainPlace(s impl.Store, bag int) (int, int) {
	for i, lane := range s.Lanes {
		for j, kept := range lane {
			if kept.Bag == bag {
				return i, j
			}
		}
	}
	return -1, -1
}

// plainOrder returns the bags in the order in which they are to be taken out.
func plainOrder(s impl.Store) []int {
	all := []impl.Kept{}
	for _, lane := range s.Lanes {
		all = append(all, lane...)
	}
	slices.SortFunc(all, func(a, b impl.Kept) int {
		if a.Time != b.Time {
			return a.Time - b.Time
		}
		return a.Bag - b.Bag
	})
	bags := []int{}
	for _, kept := range all {
		bags = append(bags, kept.Bag)
	}
	return bags
}

// plainHops returns the number of hops with which all bags are taken out in their order; -1 if they cannot.
func plainHops(s impl.Store) int {
	count := 0
	for _, bag := range plainOrder(s) {
		after, hops, ok := plainTake(s, bag)
		if !ok {
			return -1
		}
		s, count = after, count+len(hops)
	}
	return count
}

// plainBuried counts the bags for which the least time behind them is smaller.
func plainBuried(s impl.Store) int {
	buried := 0
	for _, lane := range s.Lanes {
		for i, kept := range lane {
			if least, _ := leastTime(lane[:i]); least < kept.Time {
				buried++
			}
		}
	}
	return buried
}

func TestLaneForOfSmallAndRandomStores(t *testing.T) {
	chosen := map[int]int{}
	for _, s := range append(smallStores(), randomStores(5000, 20)...) {
		list := []int{0, 2, 3, 4, 5, 6, 100000}
		for _, lane := range s.Lanes {
			for _, kept := range lane {
				list = append(list, kept.Time, min(kept.Time+1, 100000))
			}
		}
		for but := -1; but <= len(s.Lanes); but++ {
			for _, time := range list {
				want := plainLane(s, time, but)
				chosen[want]++
				checkLane(t, s, time, but, want)
			}
		}
	}
	if len(chosen) != 5 {
		t.Errorf("the lanes that are chosen are %v", chosen)
	}
}

func TestPutBagOnSmallAndRandomStores(t *testing.T) {
	for _, s := range append(smallStores(), randomStores(3000, 20)...) {
		for _, time := range []int{0, 3, 4, 5, 6, 30, 50000, 100000} {
			for _, bag := range append(plainOrder(s), 0, -1) {
				checkNotPut(t, s, bag, time)
			}
			if lane := plainLane(s, time, -1); lane == -1 {
				checkNotPut(t, s, 501, time)
			} else {
				checkPut(t, s, 501, time, lane)
			}
		}
	}
}

func TestBuriedAndNextOutOfSmallAndRandomStores(t *testing.T) {
	for _, s := range append(smallStores(), randomStores(5000, 20)...) {
		checkBuried(t, s, plainBuried(s))
		checkNext(t, s, append(plainOrder(s), 0)[0])
	}
}

// checkTaken checks that the bag is taken out with hops that are given as bag and lane.
func checkTaken(t *testing.T, s impl.Store, bag int, want impl.Store, hops ...[2]int) {
	t.Helper()
	from, _ := plainPlace(s, bag)
	list := []impl.Hop{}
	for _, v := range hops {
		list = append(list, impl.Hop{Bag: v[0], From: from, To: v[1]})
	}
	if got, gotHops, ok := impl.TakeBag(s, bag); !sameStore(got, want) || !slices.Equal(gotHops, list) || !ok {
		t.Errorf("TakeBag(%v, %d) = %v, %v, %v; want %v, %v", s, bag, got, gotHops, ok, want, list)
	}
}

func TestTakeBag(t *testing.T) {
	s := twoLanes()
	checkTaken(t, s, 2, store(3, row(1, 1, 5), row(3, 1, 7)))
	checkTaken(t, s, 3, store(3, lane([2]int{1, 5}, [2]int{2, 9}), nil))
	checkTaken(t, s, 1, store(3, nil, lane([2]int{3, 7}, [2]int{2, 9})), [2]int{2, 1})
	checkTaken(t, times(1, []int{7}), 1, store(1, nil))
	checkTaken(t, times(1, []int{7}, []int{8}), 1, store(1, nil, row(2, 1, 8)))
	checkTaken(t, fullStore(), 15, store(5, row(1, 5, 0), row(11, 4, impl.MaxTick), row(21, 5, 7), row(31, 5, 7)))
}

func TestTakeBagFromBehindOthers(t *testing.T) {
	// Bag 3, which is in front, hops first; bag 2 is put on it if it is earlier, and into the empty lane if it is later.
	s := times(4, []int{1, 5, 7}, []int{}, []int{})
	checkTaken(t, s, 1, store(4, nil, lane([2]int{3, 7}, [2]int{2, 5}), nil), [2]int{3, 1}, [2]int{2, 1})
	s = times(4, []int{1, 9, 7}, []int{}, []int{})
	checkTaken(t, s, 1, store(4, nil, row(3, 1, 7), row(2, 1, 9)), [2]int{3, 1}, [2]int{2, 2})
	// For the bag with the time 8 no lane is late enough; for the one with the time 2 both are.
	s = times(4, []int{9, 2, 8}, []int{5}, []int{6})
	checkTaken(t, s, 1, store(4, nil, lane([2]int{4, 5}, [2]int{2, 2}), lane([2]int{5, 6}, [2]int{3, 8})), [2]int{3, 2}, [2]int{2, 1})
	checkTaken(t, s, 2, store(4, row(1, 1, 9), row(4, 1, 5), lane([2]int{5, 6}, [2]int{3, 8})), [2]int{3, 2})
	// The bags behind it stay where they are, also if a bag of the lane could be put on them.
	s = times(3, []int{9, 9, 1}, []int{0})
	checkTaken(t, s, 2, store(3, row(1, 1, 9), lane([2]int{4, 0}, [2]int{3, 1})), [2]int{3, 1})
}

func TestHopsFillLanes(t *testing.T) {
	s := times(3, []int{1, 8, 8}, []int{9, 9}, []int{7})
	want := store(3, nil, lane([2]int{4, 9}, [2]int{5, 9}, [2]int{3, 8}), lane([2]int{6, 7}, [2]int{2, 8}))
	checkTaken(t, s, 1, want, [2]int{3, 1}, [2]int{2, 2})
	// Bags 5 and 4 fill the lane of bag 6, bag 3 has an empty one, and bag 2 can be put on it.
	s = store(5, times(5, []int{1, 2, 3, 4, 5}).Lanes[0], nil, row(6, 3, 9), row(11, 5, 6))
	want = store(5, nil, lane([2]int{3, 3}, [2]int{2, 2}), append(row(6, 3, 9), lane([2]int{5, 5}, [2]int{4, 4})...), row(11, 5, 6))
	checkTaken(t, s, 1, want, [2]int{5, 2}, [2]int{4, 2}, [2]int{3, 1}, [2]int{2, 1})
}

func TestBagsThatCannotBeTakenOut(t *testing.T) {
	for _, s := range []impl.Store{twoLanes(), fullStore(), store(1, nil), store(5, nil, nil, nil, nil)} {
		for _, bag := range someNumbers() {
			if from, _ := plainPlace(s, bag); from == -1 {
				checkNotTaken(t, s, bag)
			}
		}
		checkNotTaken(t, s, 99)
	}
	// With no other lane, or with full ones, the last bag alone can be taken out.
	s := times(5, []int{5, 4, 3, 2, 1})
	for bag := 1; bag <= 4; bag++ {
		checkNotTaken(t, s, bag)
	}
	checkTaken(t, s, 5, times(5, []int{5, 4, 3, 2}))
	for bag := 1; bag <= 35; bag++ {
		if bag%10 != 5 {
			checkNotTaken(t, fullStore(), bag)
		}
	}
	// There is a place for the first bag that is to hop, but for the next one none is left.
	s = times(3, []int{1, 2, 3}, []int{4, 5})
	checkNotTaken(t, s, 1)
	checkTaken(t, s, 2, store(3, row(1, 1, 1), lane([2]int{4, 4}, [2]int{5, 5}, [2]int{3, 3})), [2]int{3, 1})
}

func TestTakeBagOfSmallAndRandomStores(t *testing.T) {
	counts := map[bool]int{}
	for _, s := range append(smallStores(), randomStores(5000, 20)...) {
		for _, bag := range append(plainOrder(s), 0, 501) {
			want, hops, can := plainTake(s, bag)
			counts[can]++
			if got, gotHops, ok := impl.TakeBag(s, bag); !sameStore(got, want) || !slices.Equal(gotHops, hops) || ok != can {
				t.Errorf("TakeBag(%v, %d) = %v, %v, %v; want %v, %v, %v", s, bag, got, gotHops, ok, want, hops, can)
			}
		}
	}
	if counts[true] < 1000 || counts[false] < 1000 {
		t.Errorf("few of the bags can be taken out, or few cannot: %v", counts)
	}
}
