package tests

import (
	"math"
	"slices"
	"testing"

	"loop.example/g03319/impl"
)

func TestLoopConstants(t *testing.T) {
	got := []int{impl.MaxTrays, impl.MaxChutes, impl.MaxRoom, impl.MaxTurns, impl.MaxExactBags}
	want := []int{60, 8, 40, 600, 7}
	if !slices.Equal(got, want) {
		t.Errorf("constants are %v, want %v", got, want)
	}
}

// trays returns a loop without chutes and wants.
func trays(turned int, bags ...int) impl.Loop {
	return impl.Loop{Trays: bags, Turned: turned}
}

func withChute(l impl.Loop, at, room int, bags ...int) impl.Loop {
	l.Chutes = append(slices.Clone(l.Chutes), impl.Chute{At: at, Room: room, Bags: bags})
	return l
}

func withWant(l impl.Loop, bag int, chutes ...int) impl.Loop {
	l.Wants = append(slices.Clone(l.Wants), impl.Want{Bag: bag, Chutes: chutes})
	return l
}

// numbers returns count numbers from the first one on.
func numbers(first, count int) []int {
	list := []int{}
	for i := range count {
		list = append(list, first+i)
	}
	return list
}

func sameChute(a, b impl.Chute) bool {
	return a.At == b.At && a.Room == b.Room && slices.Equal(a.Bags, b.Bags)
}

func sameWant(a, b impl.Want) bool {
	return a.Bag == b.Bag && slices.Equal(a.Chutes, b.Chutes)
}

func sameLoop(a, b impl.Loop) bool {
	return a.Turned == b.Turned && slices.Equal(a.Trays, b.Trays) &&
		slices.EqualFunc(a.Chutes, b.Chutes, sameChute) && slices.EqualFunc(a.Wants, b.Wants, sameWant)
}

// copyOf returns the loop with slices of its own.
func copyOf(l impl.Loop) impl.Loop {
	c := trays(l.Turned, slices.Clone(l.Trays)...)
	for _, chute := range l.Chutes {
		c = withChute(c, chute.At, chute.Room, slices.Clone(chute.Bags)...)
	}
	for _, want := range l.Wants {
		c = withWant(c, want.Bag, slices.Clone(want.Chutes)...)
	}
	return c
}

// twoChutes is a loop from which bag 5 leaves with the second step, and bag 7 with the first one.
func twoChutes() impl.Loop {
	l := withChute(withChute(trays(0, 5, 0, 7, 0), 2, 1), 3, 2, 8)
	return withWant(withWant(l, 5, 0), 7, 0, 1)
}

// fullLoop is a loop that has as much of everything as it may have.
func fullLoop() impl.Loop {
	l := trays(impl.MaxTrays-1, numbers(1, impl.MaxTrays)...)
	for i := range impl.MaxChutes {
		l = withChute(l, 7*i, impl.MaxRoom, numbers(100*(i+1), impl.MaxRoom)...)
	}
	for i := range impl.MaxTrays {
		l = withWant(l, i+1, numbers(0, impl.MaxChutes)...)
	}
	return l
}

// changed returns loop l as it is after the change.
func changed(l impl.Loop, change func(l *impl.Loop)) impl.Loop {
	l = copyOf(l)
	change(&l)
	return l
}

// invalidLoops are loops each of which is invalid in a way that LoopOk names. From most of them bags would leave, or
// others would be put on them, if that were not checked.
func invalidLoops() map[string]impl.Loop {
	list := map[string]impl.Loop{
		"zero":                   {},
		"1 tray":                 withWant(withChute(trays(0, 5), 0, 1), 5, 0),
		"1 empty tray":           trays(0, 0),
		"no tray":                withWant(trays(0), 5),
		"61 trays":               withWant(withChute(trays(0, numbers(1, 61)...), 3, 1), 5, 0),
		"61 empty trays":         trays(60, make([]int, 61)...),
		"bag in Room 0":          withChute(trays(0, 5, 0), 1, 0, 6),
		"2 bags in Room 1":       withWant(withChute(trays(0, 5, 0), 1, 1, 6, 7), 5, 0),
		"41 bags in Room 40":     withChute(trays(0, 5, 0), 1, 40, numbers(11, 41)...),
		"41 bags in Room 41":     withChute(trays(0, 5, 0), 1, 41, numbers(11, 41)...),
		"3 bags in last chute":   changed(twoChutes(), func(l *impl.Loop) { l.Chutes[1].Bags = []int{8, 9, 10} }),
		"9 chutes":               withChute(changed(fullLoop(), func(l *impl.Loop) { l.Trays[3] = 0 }), 57, 3),
		"61 wants":               withWant(changed(fullLoop(), func(l *impl.Loop) { l.Trays[3] = 0 }), 61),
		"want of no chute there": withWant(trays(0, 5, 0), 5, 0),
	}
	addInvalidBags(list)
	addInvalidNumbers(list)
	addInvalidWants(list)
	return list
}

func addInvalidBags(list map[string]impl.Loop) {
	for name, bag := range map[string]int{"-1": -1, "least": math.MinInt} {
		list["bag on first tray "+name] = changed(twoChutes(), func(l *impl.Loop) { l.Trays[0] = bag })
		list["bag on last tray "+name] = changed(twoChutes(), func(l *impl.Loop) { l.Trays[3] = bag })
	}
	for name, bag := range map[string]int{"0": 0, "-1": -1, "least": math.MinInt} {
		list["first bag in chute "+name] = changed(twoChutes(), func(l *impl.Loop) { l.Chutes[0].Bags = []int{bag} })
		list["last bag in chute "+name] = changed(twoChutes(), func(l *impl.Loop) { l.Chutes[1].Bags = []int{8, bag} })
		list["first bag of want "+name] = changed(twoChutes(), func(l *impl.Loop) { l.Wants[0].Bag = bag })
		list["last bag of want "+name] = withWant(twoChutes(), bag, 1)
	}
	list["same bag on two trays"] = changed(twoChutes(), func(l *impl.Loop) { l.Trays[1] = 5 })
	list["same bag on first and last tray"] = changed(twoChutes(), func(l *impl.Loop) { l.Trays[3] = 5 })
	list["same bag on tray and in first chute"] = changed(twoChutes(), func(l *impl.Loop) { l.Chutes[0].Bags = []int{7} })
	list["same bag on tray and in last chute"] = changed(twoChutes(), func(l *impl.Loop) { l.Chutes[1].Bags = []int{8, 5} })
	list["same bag in two chutes"] = changed(twoChutes(), func(l *impl.Loop) { l.Chutes[0].Bags = []int{8} })
	list["same bag twice in a chute"] = changed(twoChutes(), func(l *impl.Loop) { l.Chutes[1].Bags = []int{8, 8} })
	list["same bag in two wants"] = changed(twoChutes(), func(l *impl.Loop) { l.Wants[1].Bag = 5 })
	list["same bag in first and last want"] = withWant(twoChutes(), 5, 1)
}

func addInvalidNumbers(list map[string]impl.Loop) {
	for name, n := range map[string]int{"-1": -1, "4": 4, "least": math.MinInt, "greatest": math.MaxInt} {
		list["Turned "+name] = changed(twoChutes(), func(l *impl.Loop) { l.Turned = n })
		list["first At "+name] = changed(twoChutes(), func(l *impl.Loop) { l.Chutes[0].At = n })
		list["last At "+name] = changed(twoChutes(), func(l *impl.Loop) { l.Chutes[1].At = n })
	}
	for name, n := range map[string]int{"-1": -1, "41": 41, "least": math.MinInt, "greatest": math.MaxInt} {
		list["first Room "+name] = changed(twoChutes(), func(l *impl.Loop) { l.Chutes[0].Room = n })
		list["last Room "+name] = changed(twoChutes(), func(l *impl.Loop) { l.Chutes[1].Room = n })
	}
	list["same At"] = changed(twoChutes(), func(l *impl.Loop) { l.Chutes[1].At = 2 })
	list["same first and last At"] = withChute(twoChutes(), 2, 0)
}

func addInvalidWants(list map[string]impl.Loop) {
	for name, chutes := range map[string][]int{
		"the same twice": {0, 0}, "the last twice": {0, 1, 1}, "descending": {1, 0}, "-1": {-1}, "-1 first": {-1, 0},
		"2": {2}, "2 last": {0, 1, 2}, "8": {8}, "least": {math.MinInt, 0}, "greatest": {0, math.MaxInt},
	} {
		list["first wants "+name] = changed(twoChutes(), func(l *impl.Loop) { l.Wants[0].Chutes = chutes })
		list["last wants "+name] = changed(twoChutes(), func(l *impl.Loop) { l.Wants[1].Chutes = chutes })
		list["one that is nowhere wants "+name] = withWant(twoChutes(), 99, chutes...)
	}
}

func TestLoopOk(t *testing.T) {
	for name, l := range map[string]impl.Loop{
		"two chutes":                twoChutes(),
		"full":                      fullLoop(),
		"2 empty trays":             trays(0, 0, 0),
		"turned by the last place":  trays(1, 0, 0),
		"2 bags":                    trays(1, math.MaxInt, 1),
		"60 empty trays":            trays(59, make([]int, 60)...),
		"chute without room":        withChute(trays(0, 0, 0), 0, 0),
		"chute with the most room":  withChute(trays(0, 0, 0), 1, 40),
		"full chute":                withChute(trays(0, 5, 0), 1, 2, math.MaxInt, 6),
		"chutes out of order":       withChute(withChute(trays(0, 5, 0), 1, 2), 0, 1),
		"want without chutes":       withWant(trays(0, 5, 0), 5),
		"want of the last chute":    withWant(twoChutes(), 99, 1),
		"want of a bag in a chute":  withWant(twoChutes(), 8, 0),
		"want of the greatest bag":  withWant(twoChutes(), math.MaxInt, 0, 1),
		"wants out of order of bag": withWant(twoChutes(), 1, 0, 1),
	} {
		if !impl.LoopOk(l) {
			t.Errorf("LoopOk(%s: %v) = false", name, l)
		}
	}
}

func TestLoopOkInvalid(t *testing.T) {
	for name, l := range invalidLoops() {
		if impl.LoopOk(l) {
			t.Errorf("LoopOk(%s: %v) = true", name, l)
		}
	}
}

func checkLoopOk(t *testing.T, l impl.Loop, want bool, what string, n int) {
	t.Helper()
	if got := impl.LoopOk(l); got != want {
		t.Errorf("LoopOk with %s %d = %v", what, n, got)
	}
}

func TestLoopOkLimits(t *testing.T) {
	for n := -2; n <= 70; n++ {
		some := max(n, 0)
		checkLoopOk(t, trays(0, numbers(1, some)...), n >= 2 && n <= 60, "bags on trays", n)
		checkLoopOk(t, trays(0, make([]int, some)...), n >= 2 && n <= 60, "empty trays", n)
		checkLoopOk(t, trays(n, numbers(1, 60)...), n >= 0 && n <= 59, "60 trays turned by", n)
		checkLoopOk(t, trays(n, 1, 2), n >= 0 && n <= 1, "2 trays turned by", n)
		checkLoopOk(t, trays(0, 0, 0, n), n >= 0, "a bag", n)
		checkLoopOk(t, withChute(trays(0, make([]int, 60)...), n, 1), n >= 0 && n <= 59, "60 trays and a chute at", n)
		checkLoopOk(t, withChute(trays(1, 0, 0, 0), n, 1), n >= 0 && n <= 2, "3 trays and a chute at", n)
		checkLoopOk(t, withChute(trays(0, 0, 0), 1, n), n >= 0 && n <= 40, "a room of", n)
		checkLoopOk(t, withChute(trays(0, 0, 0), 1, 40, numbers(1, some)...), n <= 40, "a room of 40, bags", n)
		checkLoopOk(t, withChute(trays(0, 0, 0), 1, 7, numbers(1, some)...), n <= 7, "a room of 7, bags", n)
		checkLoopOk(t, withChute(trays(0, 0, 0), 1, 1, n), n >= 1, "in a chute the bag", n)
		checkLoopOk(t, withWant(twoChutes(), n, 1), n >= 1 && n != 5 && n != 7, "a want of bag", n)
		checkLoopOk(t, withWant(twoChutes(), 99, n), n >= 0 && n <= 1, "a want of chute", n)
		checkLoopOk(t, withWant(twoChutes(), 99, 0, n), n == 1, "a want of chutes 0 and", n)
		many := trays(0, make([]int, 60)...)
		for i := range some {
			many = withWant(many, 100-i)
		}
		checkLoopOk(t, many, n <= 60, "wants", n)
	}
	for n := range 12 {
		l := trays(0, make([]int, 60)...)
		for i := range n {
			l = withChute(l, 59-i, 40)
		}
		checkLoopOk(t, l, n <= 8, "chutes", n)
	}
}

// plainLoopOk looks at each pair of bags, of chutes and of wants, and takes no limit from constants.
func plainLoopOk(l impl.Loop) bool {
	ok := len(l.Trays) >= 2 && l.Turned >= 0 && l.Turned < len(l.Trays)
	bags := map[int]int{}
	for _, bag := range l.Trays {
		ok = ok && bag >= 0
		bags[max(bag, 0)]++
	}
	bags[0] = 0
	for i, chute := range l.Chutes {
		ok = ok && chute.At >= 0 && chute.At < len(l.Trays) && chute.Room >= len(chute.Bags)
		for _, other := range l.Chutes[:i] {
			ok = ok && other.At != chute.At
		}
		for _, bag := range chute.Bags {
			ok = ok && bag >= 1
			bags[bag]++
		}
	}
	for _, times := range bags {
		ok = ok && times <= 1
	}
	return ok && plainWantsOk(l)
}

func plainWantsOk(l impl.Loop) bool {
	ok := true
	for i, want := range l.Wants {
		ok = ok && want.Bag >= 1
		for _, other := range l.Wants[:i] {
			ok = ok && other.Bag != want.Bag
		}
		for j, chute := range want.Chutes {
			ok = ok && chute >= 0 && chute < len(l.Chutes) && (j == 0 || want.Chutes[j-1] < chute)
		}
	}
	return ok
}

func TestLoopOkOfSmallLoops(t *testing.T) {
	counts := map[bool]int{}
	for n := range 1 << 16 {
		digit := func(i int) int { return n>>(2*i)&3 - 1 }
		l := trays(digit(0), max(digit(1), 0), digit(2))
		l = withChute(l, digit(3), 1, digit(4)+2)
		l = withChute(l, 1, digit(5)+1, 4)
		l = withWant(withWant(l, 1, digit(6)), 2, digit(7), 1)
		if n%3 == 0 {
			l.Wants[0].Bag = digit(2)
		}
		counts[plainLoopOk(l)]++
		if got := impl.LoopOk(l); got != plainLoopOk(l) {
			t.Errorf("LoopOk(%v) = %v", l, got)
		}
	}
	if counts[true] < 100 || counts[false] < 100 {
		t.Errorf("few of the loops are valid, or few are not: %v", counts)
	}
}

// someNumbers are numbers that may be positions, steps, bags or the number of something, and ones that may not.
func someNumbers() []int {
	return []int{math.MinInt, -61, -2, -1, 0, 1, 2, 3, 4, 5, 7, 8, 59, 60, 61, 600, 601, math.MaxInt}
}

func TestInvalidLoopsHaveFixedResults(t *testing.T) {
	for name, l := range invalidLoops() {
		for _, n := range someNumbers() {
			if got := impl.TrayAt(l, n); got != -1 {
				t.Errorf("TrayAt(%s, %d) = %d, want -1", name, n, got)
			}
			for _, at := range []int{0, 1, 3} {
				checkNotInducted(t, l, at, n)
				checkNotInducted(t, l, n, 99)
			}
			checkWantRefused(t, l, n, 0)
			checkWantRefused(t, l, n)
			if got := impl.TurnLoop(l, n); !sameLoop(got, l) {
				t.Errorf("TurnLoop(%s, %d) = %v", name, n, got)
			}
			if got, ok := impl.StepsOf(l, n); got != 0 || ok {
				t.Errorf("StepsOf(%s, %d) = %d, %v", name, n, got, ok)
			}
			if got, ok := impl.EmptyAt(l, n); got != 0 || ok {
				t.Errorf("EmptyAt(%s, %d) = %d, %v", name, n, got, ok)
			}
		}
		if got := impl.Stuck(l); len(got) != 0 {
			t.Errorf("Stuck(%s) = %v", name, got)
		}
		if got := impl.MostSorted(l); got != -1 {
			t.Errorf("MostSorted(%s) = %d, want -1", name, got)
		}
	}
}

func TestTrayAt(t *testing.T) {
	for turned, want := range [][]int{{0, 1, 2, 3}, {3, 0, 1, 2}, {2, 3, 0, 1}, {1, 2, 3, 0}} {
		for at, index := range want {
			if got := impl.TrayAt(trays(turned, 0, 5, 0, 7), at); got != index {
				t.Errorf("TrayAt(turned by %d, %d) = %d, want %d", turned, at, got, index)
			}
		}
	}
	for count := 2; count <= impl.MaxTrays; count++ {
		for turned := range count {
			l := trays(turned, make([]int, count)...)
			for i := range count {
				if got := impl.TrayAt(l, (i+turned)%count); got != i {
					t.Errorf("TrayAt(%d trays turned by %d, %d) = %d, want %d", count, turned, (i+turned)%count, got, i)
				}
			}
			for _, at := range []int{math.MinInt, -count, -1, count, count + 1, 2*count - 1, math.MaxInt} {
				if got := impl.TrayAt(l, at); got != -1 {
					t.Errorf("TrayAt(%d trays turned by %d, %d) = %d, want -1", count, turned, at, got)
				}
			}
		}
	}
}

// checkInducted checks that the bag is put on the tray with this index alone.
func checkInducted(t *testing.T, l impl.Loop, at, bag, index int) {
	t.Helper()
	want := copyOf(l)
	want.Trays[index] = bag
	if got, ok := impl.Induct(l, at, bag); !sameLoop(got, want) || !ok {
		t.Errorf("Induct(%v, %d, %d) = %v, %v; want %v", l, at, bag, got, ok, want)
	}
}

func checkNotInducted(t *testing.T, l impl.Loop, at, bag int) {
	t.Helper()
	if got, ok := impl.Induct(l, at, bag); !sameLoop(got, l) || ok {
		t.Errorf("Induct(%v, %d, %d) = %v, %v; want it unchanged", l, at, bag, got, ok)
	}
}

func TestInduct(t *testing.T) {
	l := twoChutes()
	checkInducted(t, l, 1, 9, 1)
	checkInducted(t, l, 3, 1, 3)
	checkInducted(t, l, 3, math.MaxInt, 3)
	checkNotInducted(t, l, 0, 9)
	checkNotInducted(t, l, 2, 9)
	l.Turned = 3
	checkInducted(t, l, 0, 9, 1)
	checkInducted(t, l, 2, 9, 3)
	checkNotInducted(t, l, 1, 9)
	checkNotInducted(t, l, 3, 9)
	checkInducted(t, trays(0, 0, 0), 0, 1, 0)
	checkInducted(t, trays(1, 0, 0), 0, 1, 1)
	checkInducted(t, trays(0, make([]int, 60)...), 59, 7, 59)
	for at := range impl.MaxTrays {
		checkNotInducted(t, fullLoop(), at, 99)
	}
}

func TestInductOfBagsAndPositions(t *testing.T) {
	for turned := range 4 {
		l := changed(withWant(twoChutes(), 3, 1), func(l *impl.Loop) { l.Turned = turned })
		for _, bag := range append(someNumbers(), 6, 9) {
			for at := range 4 {
				i := (at + 4 - turned) % 4
				if bag >= 1 && bag != 5 && bag != 7 && bag != 8 && i%2 == 1 {
					checkInducted(t, l, at, bag, i)
				} else {
					checkNotInducted(t, l, at, bag)
				}
			}
		}
		for _, at := range []int{math.MinInt, -5, -4, -3, -1, 4, 5, 7, math.MaxInt} {
			checkNotInducted(t, l, at, 9)
		}
	}
}

func checkWantSet(t *testing.T, l impl.Loop, place, bag int, chutes ...int) {
	t.Helper()
	want := copyOf(l)
	if place == len(l.Wants) {
		want.Wants = append(want.Wants, impl.Want{})
	}
	want.Wants[place] = impl.Want{Bag: bag, Chutes: chutes}
	if got, ok := impl.SetWant(l, bag, chutes); !sameLoop(got, want) || !ok {
		t.Errorf("SetWant(%v, %d, %v) = %v, %v; want %v", l, bag, chutes, got, ok, want)
	}
}

func checkWantRefused(t *testing.T, l impl.Loop, bag int, chutes ...int) {
	t.Helper()
	if got, ok := impl.SetWant(l, bag, chutes); !sameLoop(got, l) || ok {
		t.Errorf("SetWant(%v, %d, %v) = %v, %v; want it unchanged", l, bag, chutes, got, ok)
	}
}

func TestSetWant(t *testing.T) {
	l := twoChutes()
	checkWantSet(t, l, 0, 5, 1)
	checkWantSet(t, l, 0, 5, 0, 1)
	checkWantSet(t, l, 0, 5, 0)
	checkWantSet(t, l, 0, 5)
	checkWantSet(t, l, 1, 7, 1)
	checkWantSet(t, l, 1, 7)
	checkWantSet(t, l, 2, 8, 0)
	checkWantSet(t, l, 2, 1, 0, 1)
	checkWantSet(t, l, 2, math.MaxInt)
	checkWantSet(t, withWant(l, 6, 1), 1, 7, 0)
	checkWantSet(t, trays(0, 0, 0), 0, 1)
	checkWantRefused(t, trays(0, 0, 0), 1, 0)
}

func TestSetWantOfBagsAndChutes(t *testing.T) {
	l := twoChutes()
	for _, bag := range someNumbers() {
		place := 2
		if bag == 5 || bag == 7 {
			place = (bag - 5) / 2
		}
		for _, chutes := range [][]int{{}, {0}, {1}, {0, 1}} {
			if bag >= 1 {
				checkWantSet(t, l, place, bag, chutes...)
			} else {
				checkWantRefused(t, l, bag, chutes...)
			}
		}
		for _, chutes := range [][]int{
			{-1}, {2}, {0, 0}, {1, 0}, {1, 1}, {0, 1, 2}, {-1, 0}, {0, 1, 0}, {0, 1, 1}, {math.MinInt}, {math.MaxInt}, numbers(0, 9),
		} {
			checkWantRefused(t, l, bag, chutes...)
		}
	}
}

func TestSetWantLimit(t *testing.T) {
	l := changed(fullLoop(), func(l *impl.Loop) { l.Wants = nil })
	for bag := 1; bag <= 70; bag++ {
		if bag > impl.MaxTrays {
			checkWantRefused(t, l, bag, 0)
			checkWantRefused(t, l, bag)
			continue
		}
		checkWantSet(t, l, bag-1, bag, 3, 7)
		l, _ = impl.SetWant(l, bag, []int{3, 7})
	}
	checkWantSet(t, l, 0, 1, 7)
	checkWantSet(t, l, 59, 60)
	checkWantSet(t, fullLoop(), 30, 31, numbers(0, 8)...)
	checkWantRefused(t, fullLoop(), 31, numbers(0, 9)...)
}
