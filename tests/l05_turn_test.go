package tests

import (
	"math/rand"
	"slices"
	"testing"

	"loop.example/g03319/impl"
)

// smallLoops returns loops of two and three trays with up to two chutes and all wants of the bags on the trays.
func smallLoops() []impl.Loop {
	list := []impl.Loop{}
	for count := 2; count <= 3; count++ {
		for turned := range count {
			l := trays(turned)
			list = addSmallLoops(list, l, count)
			for at := range count {
				for first := range 4 {
					one := withSmallChute(l, at, first)
					list = addSmallLoops(list, one, count)
					for second := range 4 {
						list = addSmallLoops(list, withSmallChute(one, (at+1)%count, second), count)
					}
				}
			}
		}
	}
	return list
}

func withSmallChute(l impl.Loop, at, kind int) impl.Loop {
	switch bag := 11 + len(l.Chutes); kind {
	case 0:
		return withChute(l, at, 0)
	case 1:
		return withChute(l, at, 1)
	case 2:
		return withChute(l, at, 2, bag)
	default:
		return withChute(l, at, 1, bag)
	}
}

// addSmallLoops adds the loops that come from l if each of so many trays is empty or has a bag with any want.
func addSmallLoops(list []impl.Loop, l impl.Loop, count int) []impl.Loop {
	if count == 0 {
		return append(list, l)
	}
	empty, with := l, l
	empty.Trays = append(slices.Clone(l.Trays), 0)
	list = addSmallLoops(list, empty, count-1)
	bag := 9 - len(l.Trays)
	with.Trays = append(slices.Clone(l.Trays), bag)
	list = addSmallLoops(list, with, count-1)
	for set := range 1 << len(l.Chutes) {
		list = addSmallLoops(list, withWant(with, bag, indexesOf(set)...), count-1)
	}
	return list
}

// indexesOf returns the indexes of the bits that are set.
func indexesOf(set int) []int {
	list := []int{}
	for i := range 8 {
		if set>>i&1 == 1 {
			list = append(list, i)
		}
	}
	return list
}

// randomLoops returns valid loops; the first ones are small. Up to bags bags are on the trays of each.
func randomLoops(count, bags int) []impl.Loop {
	r := rand.New(rand.NewSource(16))
	list := []impl.Loop{}
	for n := range count {
		size := 2 + r.Intn(min(5+n/20, impl.MaxTrays-1))
		l := trays(r.Intn(size), make([]int, size)...)
		names := r.Perm(500)
		next := func() int {
			names = names[1:]
			return names[0] + 1
		}
		for range r.Intn(min(size, bags) + 1) {
			l.Trays[r.Intn(size)] = next()
		}
		for _, at := range r.Perm(size)[:r.Intn(min(size, impl.MaxChutes)+1)] {
			room := r.Intn(2 + r.Intn(3)*r.Intn(3))
			l = withChute(l, at, room)
			for range r.Intn(room + 1) {
				l.Chutes[len(l.Chutes)-1].Bags = append(l.Chutes[len(l.Chutes)-1].Bags, next())
			}
		}
		list = append(list, withRandomWants(r, l, next()))
	}
	return list
}

// withRandomWants gives wants to most bags of the loop, in any order, and to one that is not on it.
func withRandomWants(r *rand.Rand, l impl.Loop, other int) impl.Loop {
	bags := append(slices.DeleteFunc(slices.Clone(l.Trays), func(bag int) bool { return bag == 0 }), other)
	r.Shuffle(len(bags), func(i, j int) { bags[i], bags[j] = bags[j], bags[i] })
	for _, bag := range bags[:min(len(bags), impl.MaxTrays)] {
		if r.Intn(8) > 0 {
			set := r.Intn(1 << len(l.Chutes))
			if r.Intn(2) == 0 {
				set &= r.Intn(1 << len(l.Chutes))
			}
			l = withWant(l, bag, indexesOf(set)...)
		}
	}
	return l
}

func TestSmallAndRandomLoops(t *testing.T) {
	list := append(smallLoops(), randomLoops(1000, impl.MaxTrays)...)
	sizes, chutes := map[int]bool{}, map[int]bool{}
	for _, l := range list {
		sizes[len(l.Trays)], chutes[len(l.Chutes)] = true, true
		if !impl.LoopOk(l) {
			t.Errorf("LoopOk(%v) = false", l)
		}
	}
	if len(list) < 20000 || len(sizes) < 40 || len(chutes) != impl.MaxChutes+1 {
		t.Errorf("there are %d loops of %d sizes, with %d numbers of chutes", len(list), len(sizes), len(chutes))
	}
}

// plainTurn turns the loop by one step, in place: each tray is looked for at the position of each chute.
func plainTurn(l impl.Loop) impl.Loop {
	l.Turned = (l.Turned + 1) % len(l.Trays)
	for c := range l.Chutes {
		chute := &l.Chutes[c]
		for i, bag := range l.Trays {
			if (i+l.Turned)%len(l.Trays) == chute.At && wantsPlainly(l, bag, c) && len(chute.Bags) < chute.Room {
				chute.Bags = append(chute.Bags, bag)
				l.Trays[i] = 0
			}
		}
	}
	return l
}

func wantsPlainly(l impl.Loop, bag, chute int) bool {
	for _, want := range l.Wants {
		if want.Bag == bag && slices.Contains(want.Chutes, chute) {
			return true
		}
	}
	return false
}

// history tells what becomes of a loop that turns.
type history struct {
	left  map[int]int // for each bag that leaves its tray, after how many steps
	empty map[int]int // for each position that an empty tray comes to, after how many steps
	end   impl.Loop
}

func plainHistory(l impl.Loop, steps int) history {
	h := history{map[int]int{}, map[int]int{}, copyOf(l)}
	for done := range steps + 1 {
		for i, bag := range l.Trays {
			if _, known := h.left[bag]; bag != 0 && h.end.Trays[i] == 0 && !known {
				h.left[bag] = done
			}
			at := (i + h.end.Turned) % len(l.Trays)
			if _, known := h.empty[at]; h.end.Trays[i] == 0 && !known {
				h.empty[at] = done
			}
		}
		if done < steps {
			h.end = plainTurn(h.end)
		}
	}
	return h
}

func checkTurn(t *testing.T, l impl.Loop, steps int, want impl.Loop) {
	t.Helper()
	if got := impl.TurnLoop(l, steps); !sameLoop(got, want) {
		t.Errorf("TurnLoop(%v, %d) = %v, want %v", l, steps, got, want)
	}
}

func checkSteps(t *testing.T, l impl.Loop, bag, want int) {
	t.Helper()
	if got, ok := impl.StepsOf(l, bag); got != want || !ok {
		t.Errorf("StepsOf(%v, %d) = %d, %v; want %d", l, bag, got, ok, want)
	}
}

func checkNoSteps(t *testing.T, l impl.Loop, bag int) {
	t.Helper()
	if got, ok := impl.StepsOf(l, bag); got != 0 || ok {
		t.Errorf("StepsOf(%v, %d) = %d, %v; want 0, false", l, bag, got, ok)
	}
}

func checkStuck(t *testing.T, l impl.Loop, want ...int) {
	t.Helper()
	if got := impl.Stuck(l); !slices.Equal(got, want) {
		t.Errorf("Stuck(%v) = %v, want %v", l, got, want)
	}
}

func checkEmptyAt(t *testing.T, l impl.Loop, at, want int) {
	t.Helper()
	if got, ok := impl.EmptyAt(l, at); got != want || !ok {
		t.Errorf("EmptyAt(%v, %d) = %d, %v; want %d", l, at, got, ok, want)
	}
}

func checkNeverEmpty(t *testing.T, l impl.Loop, at int) {
	t.Helper()
	if got, ok := impl.EmptyAt(l, at); got != 0 || ok {
		t.Errorf("EmptyAt(%v, %d) = %d, %v; want 0, false", l, at, got, ok)
	}
}

func TestTurnLoop(t *testing.T) {
	l := twoChutes()
	checkTurn(t, l, 0, l)
	checkTurn(t, l, 1, changed(l, func(l *impl.Loop) {
		l.Turned, l.Trays, l.Chutes[1].Bags = 1, []int{5, 0, 0, 0}, []int{8, 7}
	}))
	for steps := 2; steps <= 600; steps++ {
		checkTurn(t, l, steps, changed(l, func(l *impl.Loop) {
			l.Turned, l.Trays, l.Chutes[0].Bags, l.Chutes[1].Bags = steps%4, []int{0, 0, 0, 0}, []int{5}, []int{8, 7}
		}))
	}
	for _, steps := range someNumbers() {
		if steps < 0 || steps > 600 {
			checkTurn(t, l, steps, l)
		}
	}
	checkTurn(t, trays(1, 5, 0), 1, trays(0, 5, 0))
	checkTurn(t, trays(1, 5, 0), 600, trays(1, 5, 0))
	checkTurn(t, fullLoop(), 600, fullLoop())
	checkTurn(t, fullLoop(), 599, changed(fullLoop(), func(l *impl.Loop) { l.Turned = 58 }))
}

func TestABagAtItsChuteLeavesAfterAWholeTurn(t *testing.T) {
	l := withWant(withChute(trays(1, 5, 0, 0), 1, 1), 5, 0)
	checkTurn(t, l, 0, l)
	checkTurn(t, l, 2, changed(l, func(l *impl.Loop) { l.Turned = 0 }))
	checkTurn(t, l, 3, withWant(withChute(trays(1, 0, 0, 0), 1, 1, 5), 5, 0))
	checkSteps(t, l, 5, 3)
	checkStuck(t, l)
	for count := 2; count <= impl.MaxTrays; count++ {
		for turned := range count {
			l := withWant(withChute(trays(turned, append([]int{5}, make([]int, count-1)...)...), 1, 1), 5, 0)
			steps := (count + 1 - turned) % count
			if steps == 0 {
				steps = count
			}
			checkSteps(t, l, 5, steps)
		}
	}
}

func TestAChuteThatFillsUp(t *testing.T) {
	// Bag 3 comes first, then bag 2; for bag 1, which comes last, there is no place.
	l := withChute(trays(0, 1, 2, 3, 0), 3, 3, 9)
	l = withWant(withWant(withWant(l, 1, 0), 2, 0), 3, 0)
	end := changed(l, func(l *impl.Loop) { l.Turned, l.Trays, l.Chutes[0].Bags = 3, []int{1, 0, 0, 0}, []int{9, 3, 2} })
	checkTurn(t, l, 3, end)
	end.Turned = 0
	checkTurn(t, l, 600, end)
	checkSteps(t, l, 3, 1)
	checkSteps(t, l, 2, 2)
	checkNoSteps(t, l, 1)
	checkStuck(t, l, 1)
	// It goes on into another chute, if it wants that.
	other := withChute(l, 2, 1)
	other.Wants[0] = impl.Want{Bag: 1, Chutes: []int{0, 1}}
	checkSteps(t, other, 1, 2)
	checkStuck(t, other)
	full := withWant(withChute(trays(0, 1, 2, 3), 0, 0), 2, 0)
	checkStuck(t, full, 1, 2, 3)
}

func TestTwoBagsLeaveInOneStep(t *testing.T) {
	l := withChute(withChute(withChute(trays(2, 1, 2, 3), 2, 1), 1, 1), 0, 1)
	l = withWant(withWant(withWant(l, 1, 2), 2, 1), 3, 0)
	checkTurn(t, l, 1, changed(l, func(l *impl.Loop) {
		l.Turned, l.Trays = 0, []int{0, 0, 0}
		l.Chutes[0].Bags, l.Chutes[1].Bags, l.Chutes[2].Bags = []int{3}, []int{2}, []int{1}
	}))
	two := withWant(withWant(withChute(withChute(trays(0, 1, 2, 3), 2, 1), 1, 1), 1, 0, 1), 2, 0, 1)
	checkSteps(t, two, 1, 1)
	checkSteps(t, two, 2, 1)
	checkNoSteps(t, two, 3)
	checkStuck(t, two, 3)
}

func TestStepsOfBagsThatAreNotOnTrays(t *testing.T) {
	l := withWant(withWant(twoChutes(), 8, 0), 9, 1)
	for _, bag := range append(someNumbers(), 9, 10) {
		switch bag {
		case 5:
			checkSteps(t, l, bag, 2)
		case 7:
			checkSteps(t, l, bag, 1)
		default:
			checkNoSteps(t, l, bag)
		}
	}
	checkNoSteps(t, trays(0, 5, 0), 0)
	checkNoSteps(t, trays(0, 5, 0), 5)
	checkNoSteps(t, withWant(trays(0, 5, 0), 5), 5)
}

func TestStuckIsInTheOrderOfTheTrays(t *testing.T) {
	l := withWant(withWant(withChute(trays(3, 9, 4, 0, 7, 5), 2, 4), 4, 0), 9)
	checkStuck(t, l, 9, 7, 5)
	checkStuck(t, trays(1, 0, 0))
	checkStuck(t, trays(1, 2, 1), 2, 1)
	checkStuck(t, fullLoop(), numbers(1, 60)...)
}

func TestEmptyAt(t *testing.T) {
	l := twoChutes()
	checkEmptyAt(t, l, 0, 1)
	checkEmptyAt(t, l, 1, 0)
	checkEmptyAt(t, l, 2, 1)
	checkEmptyAt(t, l, 3, 0)
	for _, at := range []int{-61, -4, -1, 4, 5, 60} {
		checkNeverEmpty(t, l, at)
	}
	for _, at := range someNumbers() {
		if at < 0 || at >= 60 {
			checkNeverEmpty(t, fullLoop(), at)
			checkNeverEmpty(t, trays(0, make([]int, 60)...), at)
		}
	}
	for at := range 60 {
		checkNeverEmpty(t, fullLoop(), at)
		checkEmptyAt(t, trays(0, make([]int, 60)...), at, 0)
		one := changed(trays(1, numbers(1, 60)...), func(l *impl.Loop) { l.Trays[0] = 0 })
		checkEmptyAt(t, one, at, (at+59)%60)
		// Bag 1 leaves at position 5 after 4 steps, and its tray goes on.
		left := withWant(withChute(trays(1, numbers(1, 60)...), 5, 1), 1, 0)
		checkEmptyAt(t, left, at, 4+(at+55)%60)
	}
}

func TestATrayThatWillBeEmptyOnlyAtItsOwnPosition(t *testing.T) {
	l := withWant(withChute(trays(0, 1, 2), 0, 1), 2, 0)
	checkEmptyAt(t, l, 0, 1)
	checkEmptyAt(t, l, 1, 2)
	full := withWant(withChute(trays(0, 1, 2), 0, 1, 9), 2, 0)
	checkNeverEmpty(t, full, 0)
	checkNeverEmpty(t, full, 1)
}

func checkAgainstHistory(t *testing.T, l impl.Loop, steps int) {
	t.Helper()
	h := plainHistory(l, steps)
	checkTurn(t, l, steps, h.end)
	stuck := []int{}
	for i, bag := range l.Trays {
		if left, ok := h.left[bag]; ok {
			checkSteps(t, l, bag, left)
		} else {
			checkNoSteps(t, l, bag)
		}
		if h.end.Trays[i] != 0 {
			stuck = append(stuck, bag)
		}
	}
	checkStuck(t, l, stuck...)
	for at := range l.Trays {
		if empty, ok := h.empty[at]; ok {
			checkEmptyAt(t, l, at, empty)
		} else {
			checkNeverEmpty(t, l, at)
		}
	}
}

func TestSmallLoopsTurn(t *testing.T) {
	for _, l := range smallLoops() {
		checkAgainstHistory(t, l, 10)
		for steps := range 4 {
			checkTurn(t, l, steps, plainHistory(l, steps).end)
		}
	}
}

func TestRandomLoopsTurn(t *testing.T) {
	r := rand.New(rand.NewSource(17))
	for _, l := range randomLoops(600, impl.MaxTrays) {
		checkAgainstHistory(t, l, impl.MaxTurns)
		for range 3 {
			steps := r.Intn(2 * len(l.Trays))
			checkTurn(t, l, steps, plainHistory(l, steps).end)
		}
	}
}

func TestABagThatDoesNotLeaveInOneTurnNeverDoes(t *testing.T) {
	stays, leaves := 0, 0
	for _, l := range append(smallLoops(), randomLoops(1500, impl.MaxTrays)...) {
		turn := impl.TurnLoop(l, len(l.Trays))
		for _, steps := range []int{len(l.Trays) + 1, 2 * len(l.Trays), 599, 600} {
			if more := impl.TurnLoop(l, steps); !slices.Equal(more.Trays, turn.Trays) {
				t.Errorf("the trays of %v are %v after a whole turn, but %v after %d steps", l, turn.Trays, more.Trays, steps)
			}
		}
		for i, bag := range l.Trays {
			steps, ok := impl.StepsOf(l, bag)
			if bag == 0 {
				continue
			}
			if ok == (turn.Trays[i] != 0) || ok && (steps < 1 || steps > len(l.Trays)) {
				t.Errorf("StepsOf(%v, %d) = %d, %v; a whole turn leaves %v", l, bag, steps, ok, turn.Trays)
			}
			if ok {
				leaves++
			} else {
				stays++
			}
		}
		stuck := slices.DeleteFunc(slices.Clone(turn.Trays), func(bag int) bool { return bag == 0 })
		checkStuck(t, l, stuck...)
		checkStuck(t, turn, stuck...)
	}
	if stays < 1000 || leaves < 1000 {
		t.Errorf("only %d bags stay, or only %d bags leave", stays, leaves)
	}
}

func TestTurningByPartsIsTurning(t *testing.T) {
	r := rand.New(rand.NewSource(18))
	for _, l := range randomLoops(500, impl.MaxTrays) {
		first, second := r.Intn(30), r.Intn(30)
		checkTurn(t, impl.TurnLoop(l, first), second, impl.TurnLoop(l, first+second))
	}
}
