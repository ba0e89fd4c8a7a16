package tests

import (
	"slices"
	"testing"

	"loop.example/g03319/impl"
)

func checkMostSorted(t *testing.T, l impl.Loop, want int) {
	t.Helper()
	if got := impl.MostSorted(l); got != want {
		t.Errorf("MostSorted(%v) = %d, want %d", l, got, want)
	}
}

func TestMostSorted(t *testing.T) {
	checkMostSorted(t, twoChutes(), 2)
	checkMostSorted(t, trays(0, 0, 0), 0)
	checkMostSorted(t, trays(0, 1, 2), 0)
	checkMostSorted(t, withChute(trays(0, 1, 2), 0, 40), 0)
	checkMostSorted(t, withWant(withChute(trays(0, 1, 2), 0, 40), 1), 0)
	checkMostSorted(t, withWant(withChute(trays(0, 1, 2), 0, 40), 1, 0), 1)
	checkMostSorted(t, withWant(withChute(trays(0, 1, 2), 0, 0), 1, 0), 0)
	checkMostSorted(t, withWant(withChute(trays(0, 1, 2), 0, 1, 9), 1, 0), 0)
	checkMostSorted(t, withWant(withChute(trays(0, 1, 2), 0, 2, 9), 1, 0), 1)
	// A bag that is in a chute, or nowhere, is not put anywhere.
	checkMostSorted(t, withWant(withChute(withChute(trays(0, 1, 2), 0, 2, 9), 1, 3), 9, 0, 1), 0)
	checkMostSorted(t, withWant(withChute(trays(0, 1, 2), 0, 2, 9), 8, 0), 0)
}

func TestBagsMakePlaceForOthers(t *testing.T) {
	// Bag 7 takes the place of bag 5, for it comes first; in another order both have a place.
	l := withChute(withChute(trays(0, 5, 7, 0, 0), 2, 1), 3, 1)
	l = withWant(withWant(l, 5, 0), 7, 0, 1)
	checkStuck(t, l, 5)
	checkMostSorted(t, l, 2)
	// Each bag but the last one has to be put into the second chute that it wants.
	row := trays(0, 1, 2, 3, 4, 5, 6, 7, 0)
	for i := range 7 {
		row = withChute(row, i, 1)
	}
	for bag := 1; bag <= 6; bag++ {
		row = withWant(row, bag, bag-1, bag)
	}
	checkMostSorted(t, withWant(row, 7, 0), 7)
	checkMostSorted(t, withWant(row, 7, 6), 7)
	checkMostSorted(t, withWant(row, 7), 6)
	checkMostSorted(t, changed(withWant(row, 7, 0), func(l *impl.Loop) { l.Chutes[6].Room = 0 }), 6)
}

func TestBagsThatWantTheSameChutes(t *testing.T) {
	for room := range 10 {
		for bags := range 8 {
			l := withChute(withChute(trays(0, append(numbers(1, bags), 0, 0)...), 0, room, numbers(20, room/2)...), 1, 40)
			for bag := 1; bag <= bags; bag++ {
				l = withWant(l, bag, 0)
			}
			checkMostSorted(t, l, min(bags, room-room/2))
		}
	}
}

func TestMostSortedBagLimit(t *testing.T) {
	for bags := range 61 {
		l := withChute(trays(0, append(numbers(1, bags), make([]int, 60-bags)...)...), 3, 40, numbers(100, 35)...)
		for bag := 1; bag <= bags; bag++ {
			l = withWant(l, bag, 0)
		}
		want := []int{0, 1, 2, 3, 4, 5, 5, 5}
		if bags < len(want) {
			checkMostSorted(t, l, want[bags])
		} else {
			checkMostSorted(t, l, -1)
		}
		l.Wants = nil
		if bags <= 7 {
			checkMostSorted(t, l, 0)
		} else {
			checkMostSorted(t, l, -1)
		}
	}
	checkMostSorted(t, withWant(withChute(trays(0, 1, 2), 1, 40, numbers(11, 39)...), 1, 0), 1)
}

func TestMostSortedOfEightChutes(t *testing.T) {
	for set := range 1 << impl.MaxChutes {
		l := trays(0, 1, 2, 3, 4, 5, 6, 7, 0)
		for i := range impl.MaxChutes {
			l = withChute(l, i, set>>i&1)
		}
		for bag := 1; bag <= 7; bag++ {
			l = withWant(l, bag, numbers(0, impl.MaxChutes)...)
		}
		checkMostSorted(t, l, min(7, len(indexesOf(set))))
		checkMostSorted(t, changed(l, func(l *impl.Loop) { l.Wants[0].Chutes = []int{7} }), min(7, len(indexesOf(set)), 6+set>>7))
	}
}

// plainMostSorted relies on a theorem of Kőnig: the greatest number is the least one of the free places in some chutes and
// the bags that want others.
func plainMostSorted(l impl.Loop) int {
	most := len(l.Trays)
	for set := range 1 << len(l.Chutes) {
		count := 0
		for _, i := range indexesOf(set) {
			count += l.Chutes[i].Room - len(l.Chutes[i].Bags)
		}
		for _, bag := range l.Trays {
			for i := range l.Chutes {
				if set>>i&1 == 0 && wantsPlainly(l, bag, i) {
					count++
					break
				}
			}
		}
		most = min(most, count)
	}
	return most
}

func bagsInChutes(l impl.Loop) int {
	count := 0
	for _, chute := range l.Chutes {
		count += len(chute.Bags)
	}
	return count
}

func TestMostSortedOfSmallAndRandomLoops(t *testing.T) {
	better := 0
	for _, l := range append(smallLoops(), randomLoops(4000, impl.MaxExactBags)...) {
		checkMostSorted(t, l, plainMostSorted(l))
		if plainMostSorted(l) > bagsInChutes(impl.TurnLoop(l, impl.MaxTurns))-bagsInChutes(l) {
			better++
		}
	}
	if better < 100 {
		t.Errorf("in only %d loops more bags could be sorted than turns sort", better)
	}
}

// checkSorted checks that the bags are kept and that those that have left their trays are where they may be.
func checkSorted(t *testing.T, l, after impl.Loop) {
	t.Helper()
	before, bags := slices.Clone(l.Trays), slices.Clone(after.Trays)
	for i, chute := range after.Chutes {
		before, bags = append(before, l.Chutes[i].Bags...), append(bags, chute.Bags...)
		known := len(l.Chutes[i].Bags)
		if !slices.Equal(chute.Bags[:known], l.Chutes[i].Bags) || len(chute.Bags) > chute.Room {
			t.Errorf("chute %d of %v is %v after turns", i, l, chute)
		}
		for _, bag := range chute.Bags[known:] {
			before = append(before, 0)
			if !wantsPlainly(l, bag, i) {
				t.Errorf("bag %d of %v is in chute %d after turns", bag, l, i)
			}
		}
	}
	slices.Sort(before)
	slices.Sort(bags)
	if !slices.Equal(before, bags) {
		t.Errorf("the bags of %v are %v after turns", l, bags)
	}
}

func TestNoTurnsSortMoreThanCouldBeSorted(t *testing.T) {
	for _, l := range append(smallLoops(), randomLoops(4000, impl.MaxExactBags)...) {
		most := impl.MostSorted(l)
		for _, steps := range []int{0, 1, 2, len(l.Trays) - 1, len(l.Trays), 600} {
			after := impl.TurnLoop(l, steps)
			checkSorted(t, l, after)
			sorted := bagsInChutes(after) - bagsInChutes(l)
			if sorted > most || !impl.LoopOk(after) {
				t.Errorf("%d bags of %v are sorted by %d steps, but %d could be", sorted, l, steps, most)
			}
			if rest := impl.MostSorted(after); rest > most-sorted {
				t.Errorf("%d bags of %v are sorted by %d steps, and %d more could be, but %d of all", sorted, l, steps, rest, most)
			}
		}
	}
}

// spoilLoop overwrites a result and the memory behind it.
func spoilLoop(l impl.Loop) {
	for _, chute := range l.Chutes[:cap(l.Chutes)] {
		spoil(chute.Bags)
	}
	for _, want := range l.Wants[:cap(l.Wants)] {
		spoil(want.Chutes)
	}
	spoil(l.Trays)
	clear(l.Chutes[:cap(l.Chutes)])
	clear(l.Wants[:cap(l.Wants)])
}

func callAllOnLoop(l impl.Loop, chutes []int) {
	impl.LoopOk(l)
	impl.MostSorted(l)
	spoil(impl.Stuck(l))
	for _, n := range []int{-1, 0, 1, 2, 5, 9, 60, 601} {
		impl.TrayAt(l, n)
		impl.StepsOf(l, n)
		impl.EmptyAt(l, n)
		spoilLoop(impl.TurnLoop(l, n))
		with, _ := impl.Induct(l, n, 99)
		spoilLoop(with)
		with, _ = impl.SetWant(l, n, chutes)
		spoilLoop(with)
		for _, bag := range slices.Clone(l.Trays) {
			with, _ = impl.SetWant(l, bag, chutes)
			spoilLoop(with)
		}
	}
}

func roomBehind(list []int) []int {
	return append(slices.Clone(list), 901, 902, 903)[:len(list)]
}

// withRoomBehind returns the loop with slices that have memory behind them.
func withRoomBehind(l impl.Loop) impl.Loop {
	c := trays(l.Turned, roomBehind(l.Trays)...)
	for _, chute := range l.Chutes {
		c = withChute(c, chute.At, chute.Room, roomBehind(chute.Bags)...)
	}
	for _, want := range l.Wants {
		c = withWant(c, want.Bag, roomBehind(want.Chutes)...)
	}
	more := withWant(withChute(c, 1, 9, 911, 912), 913, 0)
	c.Chutes, c.Wants = more.Chutes[:len(c.Chutes)], more.Wants[:len(c.Wants)]
	return c
}

// behind returns the loop with what is in the memory behind its slices.
func behind(l impl.Loop) impl.Loop {
	whole := impl.Loop{Turned: l.Turned, Trays: l.Trays[:len(l.Trays)+3]}
	for i, chute := range l.Chutes[:len(l.Chutes)+1] {
		if i < len(l.Chutes) {
			chute.Bags = chute.Bags[:len(chute.Bags)+3]
		}
		whole.Chutes = append(whole.Chutes, chute)
	}
	for i, want := range l.Wants[:len(l.Wants)+1] {
		if i < len(l.Wants) {
			want.Chutes = want.Chutes[:len(want.Chutes)+3]
		}
		whole.Wants = append(whole.Wants, want)
	}
	return whole
}

func TestLoopArgumentsAreNotChanged(t *testing.T) {
	list := append(randomLoops(300, impl.MaxTrays), twoChutes(), fullLoop())
	for _, l := range invalidLoops() {
		list = append(list, l)
	}
	for _, l := range list {
		arg := withRoomBehind(l)
		kept := copyOf(behind(arg))
		chutes := []int{0, 1, 5, 6}
		callAllOnLoop(arg, chutes[:min(len(l.Chutes), 2)])
		if got := behind(arg); !sameLoop(got, kept) || !sameLoop(arg, l) || !slices.Equal(chutes, []int{0, 1, 5, 6}) {
			t.Errorf("the loop is %v after the calls, want %v; the chutes are %v", got, kept, chutes)
		}
	}
}

func TestLoopResultsAreNewEachTime(t *testing.T) {
	for _, l := range randomLoops(100, impl.MaxTrays) {
		kept := copyOf(l)
		callAllOnLoop(l, []int{0})
		checkAgainstHistory(t, kept, impl.MaxTurns)
		checkAgainstHistory(t, l, impl.MaxTurns)
	}
}

func slicesOf(l impl.Loop) [][]int {
	list := [][]int{l.Trays}
	for _, chute := range l.Chutes {
		list = append(list, chute.Bags)
	}
	for _, want := range l.Wants {
		list = append(list, want.Chutes)
	}
	return list
}

// checkOwnMemory overwrites one slice of the result after the other; no other one may change.
func checkOwnMemory(t *testing.T, l impl.Loop) {
	t.Helper()
	list, kept := slicesOf(l), slicesOf(copyOf(l))
	for i := range list {
		spoil(list[i])
		for j := range list {
			if j != i && !slices.Equal(list[j], kept[j]) {
				t.Errorf("slices %d and %d of %v share memory", i, j, kept)
			}
		}
		copy(list[i], kept[i])
	}
}

func TestSlicesOfALoopShareNoMemory(t *testing.T) {
	for _, l := range append(randomLoops(300, impl.MaxTrays), fullLoop(), twoChutes()) {
		for _, steps := range []int{-1, 0, 1, len(l.Trays)} {
			checkOwnMemory(t, impl.TurnLoop(l, steps))
		}
		for at := range l.Trays {
			with, _ := impl.Induct(l, at, 999)
			checkOwnMemory(t, with)
		}
		for _, want := range l.Wants {
			with, _ := impl.SetWant(l, want.Bag, indexesOf(1<<len(l.Chutes)-1))
			checkOwnMemory(t, with)
		}
	}
}
