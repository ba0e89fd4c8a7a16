package tests

import (
	"math"
	"slices"
	"testing"

	"loop.example/g03319/impl"
)

func TestBeltConstants(t *testing.T) {
	got := []int{impl.MaxBeltLen, impl.MaxOnBelt, impl.MaxBagLen, impl.MaxGap, impl.MaxSteps}
	want := []int{400, 40, 60, 20, 2000}
	if !slices.Equal(got, want) {
		t.Errorf("constants are %v, want %v", got, want)
	}
}

// belt returns a belt with items that are given as bag, front and length.
func belt(length, gap int, items ...[3]int) impl.Belt {
	b := impl.Belt{Len: length, Gap: gap}
	for _, v := range items {
		b.Items = append(b.Items, impl.Item{Bag: v[0], Front: v[1], Len: v[2]})
	}
	return b
}

func heldBelt(b impl.Belt) impl.Belt {
	b.Held = true
	return b
}

// rowOfBags returns a belt with the bags 1 to count, all of one size, that stand close up at its end.
func rowOfBags(length, gap, count, size int) impl.Belt {
	b := belt(length, gap)
	for i := range count {
		b.Items = append(b.Items, impl.Item{Bag: i + 1, Front: length - i*(size+gap), Len: size})
	}
	return b
}

func sameBelt(a, b impl.Belt) bool {
	return a.Len == b.Len && a.Gap == b.Gap && a.Held == b.Held && slices.Equal(a.Items, b.Items)
}

func rear(item impl.Item) int { return item.Front - item.Len + 1 }

func bagsOf(b impl.Belt) []int {
	list := []int{}
	for _, item := range b.Items {
		list = append(list, item.Bag)
	}
	return list
}

// smallBelts returns all valid belts of up to six places with gaps of up to two, not held and held.
func smallBelts() []impl.Belt {
	list := []impl.Belt{}
	for length := 1; length <= 6; length++ {
		for gap := range 3 {
			list = addSmallBelts(list, belt(length, gap), length)
			list = addSmallBelts(list, heldBelt(belt(length, gap)), length)
		}
	}
	return list
}

// addSmallBelts adds b, and all belts that have more items behind those of b, at most at the place limit.
func addSmallBelts(list []impl.Belt, b impl.Belt, limit int) []impl.Belt {
	list = append(list, b)
	for front := 1; front <= limit; front++ {
		for size := 1; size <= front; size++ {
			more := b
			more.Items = append(slices.Clone(b.Items), impl.Item{Bag: 11 + 3*len(b.Items), Front: front, Len: size})
			list = addSmallBelts(list, more, front-size-b.Gap)
		}
	}
	return list
}

// invalidBelts are belts each of which is invalid in a way that BeltOk names. From most of them a bag would leave, or
// others would move or enter, if that were not checked.
func invalidBelts() map[string]impl.Belt {
	return map[string]impl.Belt{
		"zero":                         {},
		"Len 0":                        belt(0, 1),
		"Len -1":                       belt(-1, 1),
		"least Len":                    belt(math.MinInt, 0),
		"Len 401":                      belt(401, 1, [3]int{1, 401, 3}, [3]int{2, 5, 2}),
		"Len 401, empty":               belt(401, 0),
		"greatest Len":                 belt(math.MaxInt, 1, [3]int{1, math.MaxInt, 3}, [3]int{2, 5, 2}),
		"Gap -1":                       belt(10, -1, [3]int{1, 10, 3}, [3]int{2, 5, 2}),
		"Gap -1, overlap":              belt(10, -1, [3]int{1, 10, 3}, [3]int{2, 8, 2}),
		"Gap -1, empty":                belt(10, -1),
		"least Gap":                    belt(10, math.MinInt, [3]int{1, 10, 3}, [3]int{2, 5, 2}),
		"Gap 21":                       belt(100, 21, [3]int{1, 100, 3}, [3]int{2, 50, 2}),
		"Gap 21, empty":                belt(10, 21),
		"greatest Gap":                 belt(10, math.MaxInt, [3]int{1, 10, 3}, [3]int{2, 5, 2}),
		"41 items":                     rowOfBags(400, 1, 41, 1),
		"41 items, held":               heldBelt(rowOfBags(400, 1, 41, 1)),
		"bag 0 ahead":                  belt(10, 1, [3]int{0, 10, 3}, [3]int{2, 5, 2}),
		"bag 0 behind":                 belt(10, 1, [3]int{1, 10, 3}, [3]int{0, 5, 2}),
		"bag -1":                       belt(10, 1, [3]int{1, 10, 3}, [3]int{-1, 5, 2}),
		"least bag":                    belt(10, 1, [3]int{math.MinInt, 10, 3}),
		"the same bag":                 belt(10, 1, [3]int{2, 10, 3}, [3]int{2, 5, 2}),
		"the same bag, first and last": belt(15, 1, [3]int{2, 15, 3}, [3]int{1, 10, 3}, [3]int{2, 5, 2}),
		"the same bag, last two":       belt(15, 1, [3]int{1, 15, 3}, [3]int{2, 10, 3}, [3]int{2, 5, 2}),
		"the same bag, held":           heldBelt(belt(10, 1, [3]int{2, 10, 3}, [3]int{2, 5, 2})),
		"length 0 ahead":               belt(10, 1, [3]int{1, 10, 0}, [3]int{2, 5, 2}),
		"length 0 behind":              belt(10, 1, [3]int{1, 10, 3}, [3]int{2, 5, 0}),
		"length -1":                    belt(10, 1, [3]int{1, 10, 3}, [3]int{2, 5, -1}),
		"least length ahead":           belt(10, 1, [3]int{1, 10, math.MinInt}, [3]int{2, 5, 2}),
		"least length behind":          belt(10, 1, [3]int{1, 10, 3}, [3]int{2, 5, math.MinInt}),
		"length 61 ahead":              belt(100, 1, [3]int{1, 100, 61}, [3]int{2, 20, 2}),
		"length 61 behind":             belt(100, 1, [3]int{1, 100, 3}, [3]int{2, 70, 61}),
		"greatest length":              belt(10, 1, [3]int{1, 10, math.MaxInt}),
		"Front less than length":       belt(10, 1, [3]int{1, 10, 3}, [3]int{2, 1, 2}),
		"first less than length":       belt(2, 1, [3]int{1, 2, 3}),
		"Front 0":                      belt(10, 1, [3]int{1, 10, 3}, [3]int{2, 0, 1}),
		"least Front":                  belt(10, 1, [3]int{1, 10, 3}, [3]int{2, math.MinInt, 2}),
		"Front past the end":           belt(10, 1, [3]int{1, 11, 3}, [3]int{2, 5, 2}),
		"greatest Front":               belt(10, 1, [3]int{1, math.MaxInt, 3}, [3]int{2, 5, 2}),
		"too near by one":              belt(10, 1, [3]int{1, 10, 3}, [3]int{2, 7, 2}),
		"too near by one, held":        heldBelt(belt(10, 1, [3]int{1, 10, 3}, [3]int{2, 7, 2})),
		"close up with a gap of 20":    belt(40, 20, [3]int{1, 40, 3}, [3]int{2, 37, 2}),
		"overlap":                      belt(10, 0, [3]int{1, 10, 3}, [3]int{2, 8, 2}),
		"one on the other":             belt(10, 0, [3]int{1, 10, 3}, [3]int{2, 10, 3}),
		"wrong order":                  belt(10, 1, [3]int{2, 5, 2}, [3]int{1, 10, 3}),
		"third too near":               belt(20, 2, [3]int{1, 20, 3}, [3]int{2, 12, 4}, [3]int{3, 7, 2}),
	}
}

func TestSmallBelts(t *testing.T) {
	list := smallBelts()
	if len(list) < 1000 {
		t.Errorf("there are only %d small belts", len(list))
	}
	for _, b := range list {
		if !impl.BeltOk(b) {
			t.Errorf("BeltOk(%v) = false", b)
		}
	}
}

func TestBeltOk(t *testing.T) {
	for _, b := range []impl.Belt{
		belt(10, 1, [3]int{1, 9, 3}, [3]int{2, 4, 2}),
		heldBelt(belt(10, 1, [3]int{1, 9, 3}, [3]int{2, 4, 2})),
		belt(10, 1, [3]int{1, 10, 3}, [3]int{2, 6, 2}),
		belt(10, 0, [3]int{1, 10, 3}, [3]int{2, 7, 2}),
		belt(40, 20, [3]int{1, 40, 3}, [3]int{2, 17, 17}),
		belt(5, 0, [3]int{7, 5, 3}, [3]int{3, 2, 2}),
		belt(1, 0),
		belt(1, impl.MaxGap, [3]int{1, 1, 1}),
		belt(impl.MaxBeltLen, impl.MaxGap),
		belt(9, 1, [3]int{math.MaxInt, 5, 5}),
		belt(impl.MaxBeltLen, 0, [3]int{1, 400, impl.MaxBagLen}, [3]int{2, 60, impl.MaxBagLen}),
		rowOfBags(impl.MaxBeltLen, 0, impl.MaxOnBelt, 10),
		rowOfBags(impl.MaxBeltLen, 9, impl.MaxOnBelt, 1),
	} {
		if !impl.BeltOk(b) {
			t.Errorf("BeltOk(%v) = false", b)
		}
	}
}

func TestBeltOkInvalid(t *testing.T) {
	for name, b := range invalidBelts() {
		if impl.BeltOk(b) {
			t.Errorf("BeltOk(%s: %v) = true", name, b)
		}
	}
}

func TestBeltOkLimits(t *testing.T) {
	for n := -2; n <= 402; n++ {
		if got := impl.BeltOk(belt(n, 1)); got != (n >= 1 && n <= 400) {
			t.Errorf("BeltOk with Len %d = %v", n, got)
		}
		if got := impl.BeltOk(belt(400, n)); got != (n >= 0 && n <= 20) {
			t.Errorf("BeltOk with Gap %d = %v", n, got)
		}
		if got := impl.BeltOk(belt(400, 1, [3]int{n, 10, 5})); got != (n >= 1) {
			t.Errorf("BeltOk with bag %d = %v", n, got)
		}
		if got := impl.BeltOk(belt(400, 1, [3]int{1, 400, n})); got != (n >= 1 && n <= 60) {
			t.Errorf("BeltOk with a first item of length %d = %v", n, got)
		}
		if got := impl.BeltOk(belt(400, 1, [3]int{1, 400, 5}, [3]int{2, 70, n})); got != (n >= 1 && n <= 60) {
			t.Errorf("BeltOk with a last item of length %d = %v", n, got)
		}
		if got := impl.BeltOk(belt(50, 1, [3]int{1, n, 5})); got != (n >= 5 && n <= 50) {
			t.Errorf("BeltOk with a first Front %d = %v", n, got)
		}
		if got := impl.BeltOk(belt(50, 3, [3]int{1, 40, 5}, [3]int{2, n, 7})); got != (n >= 7 && n <= 32) {
			t.Errorf("BeltOk with a last Front %d = %v", n, got)
		}
		if got := impl.BeltOk(rowOfBags(400, 0, max(n, 0), 1)); got != (n <= 40) {
			t.Errorf("BeltOk with %d items = %v", n, got)
		}
	}
}

// plainOk looks at the places that each item covers, and at those that it keeps free ahead of it.
func plainOk(b impl.Belt) bool {
	if b.Len < 1 || b.Gap < 0 {
		return false
	}
	for i, item := range b.Items {
		if item.Bag < 1 || item.Len < 1 || rear(item) < 1 || item.Front > b.Len {
			return false
		}
		for _, ahead := range b.Items[:i] {
			if ahead.Bag == item.Bag || item.Front+b.Gap >= rear(ahead) {
				return false
			}
		}
	}
	return true
}

func TestBeltOkOfTwoItems(t *testing.T) {
	counts := map[bool]int{}
	for gap := -1; gap <= 2; gap++ {
		for n := range 8 * 4 * 8 * 4 {
			b := belt(6, gap, [3]int{1, n % 8, n / 8 % 4}, [3]int{2, n / 32 % 8, n / 256})
			counts[plainOk(b)]++
			if got := impl.BeltOk(b); got != plainOk(b) {
				t.Errorf("BeltOk(%v) = %v", b, got)
			}
		}
	}
	if counts[true] < 100 || counts[false] < 100 {
		t.Errorf("few of the belts are valid, or few are not: %v", counts)
	}
}

func TestInvalidBeltsHaveFixedResults(t *testing.T) {
	for name, b := range invalidBelts() {
		if got := impl.FreeBehind(b); got != -1 {
			t.Errorf("FreeBehind(%s) = %d, want -1", name, got)
		}
		if got, ok := impl.Enter(b, 99, 1); !sameBelt(got, b) || ok {
			t.Errorf("Enter(%s) = %v, %v", name, got, ok)
		}
		for _, steps := range []int{-1, 0, 1, 5, impl.MaxSteps, impl.MaxSteps + 1} {
			if got := impl.Move(b, steps); !sameBelt(got, b) {
				t.Errorf("Move(%s, %d) = %v", name, steps, got)
			}
			if got, exits := impl.Run(b, steps); !sameBelt(got, b) || len(exits) != 0 {
				t.Errorf("Run(%s, %d) = %v, %v", name, steps, got, exits)
			}
		}
		if got, bag, ok := impl.Leave(b); !sameBelt(got, b) || bag != 0 || ok {
			t.Errorf("Leave(%s) = %v, %d, %v", name, got, bag, ok)
		}
		for _, place := range []int{-1, 0, 1, 2, 4, 5, 8, 9, 10, 100, 400, 401, math.MinInt, math.MaxInt} {
			if got := impl.CoverAt(b, place); got != 0 {
				t.Errorf("CoverAt(%s, %d) = %d, want 0", name, place, got)
			}
		}
		if got := impl.Backlog(b); got != -1 {
			t.Errorf("Backlog(%s) = %d, want -1", name, got)
		}
		for _, sizes := range [][]int{nil, {1}, {1, 60}, {61}, {0}} {
			if got := impl.RoomFor(b, sizes); got != -1 {
				t.Errorf("RoomFor(%s, %v) = %d, want -1", name, sizes, got)
			}
		}
	}
}

func TestFreeBehind(t *testing.T) {
	cases := []struct {
		b    impl.Belt
		want int
	}{
		{belt(10, 1, [3]int{1, 9, 3}, [3]int{2, 4, 2}), 1},
		{heldBelt(belt(10, 1, [3]int{1, 9, 3}, [3]int{2, 4, 2})), 1},
		{belt(10, 1, [3]int{1, 9, 3}, [3]int{2, 3, 2}), 0},
		{belt(10, 1, [3]int{1, 9, 3}, [3]int{2, 2, 2}), 0},
		{belt(10, 0, [3]int{1, 9, 3}, [3]int{2, 2, 2}), 0},
		{belt(10, 0, [3]int{1, 9, 3}), 6},
		{belt(10, 2, [3]int{1, 9, 3}), 4},
		{belt(10, 20, [3]int{1, 9, 3}), 0},
		{belt(10, 20), 10},
		{heldBelt(belt(10, 20)), 10},
		{belt(1, 0), 1},
		{belt(400, 20), 400},
		{belt(400, 20, [3]int{1, 400, 1}), 379},
		{belt(400, 0, [3]int{1, 400, 60}), 340},
		{rowOfBags(400, 0, 40, 1), 360},
		{rowOfBags(400, 0, 40, 10), 0},
	}
	for _, c := range cases {
		if got := impl.FreeBehind(c.b); got != c.want {
			t.Errorf("FreeBehind(%v) = %d, want %d", c.b, got, c.want)
		}
	}
}

// plainFree counts places from the first one on: behind each of them the whole gap must be free, too.
func plainFree(b impl.Belt) int {
	for place := 1; place <= b.Len; place++ {
		for _, item := range b.Items {
			if place+b.Gap >= rear(item) {
				return place - 1
			}
		}
	}
	return b.Len
}

func TestFreeBehindOfSmallBelts(t *testing.T) {
	for _, b := range smallBelts() {
		if got := impl.FreeBehind(b); got != plainFree(b) {
			t.Errorf("FreeBehind(%v) = %d, want %d", b, got, plainFree(b))
		}
	}
}

func checkEnter(t *testing.T, b impl.Belt, bag, size int, want bool) {
	t.Helper()
	after := b
	if want {
		after.Items = append(slices.Clone(b.Items), impl.Item{Bag: bag, Front: size, Len: size})
	}
	if got, ok := impl.Enter(b, bag, size); !sameBelt(got, after) || ok != want {
		t.Errorf("Enter(%v, %d, %d) = %v, %v; want %v, %v", b, bag, size, got, ok, after, want)
	}
}

func TestEnter(t *testing.T) {
	b := belt(100, 1, [3]int{3, 90, 5}, [3]int{7, 80, 8})
	for _, held := range []impl.Belt{b, heldBelt(b)} {
		for bag := -2; bag <= 9; bag++ {
			checkEnter(t, held, bag, 4, bag >= 1 && bag != 3 && bag != 7)
		}
		checkEnter(t, held, math.MinInt, 4, false)
		checkEnter(t, held, math.MaxInt, 4, true)
		for size := -2; size <= 100; size++ {
			checkEnter(t, held, 1, size, size >= 1 && size <= 60)
		}
		checkEnter(t, held, 1, math.MinInt, false)
		checkEnter(t, held, 1, math.MaxInt, false)
	}
	for size := 50; size <= 62; size++ {
		checkEnter(t, belt(60, 20), 1, size, size <= 60)
		checkEnter(t, belt(55, 20), 1, size, size <= 55)
		checkEnter(t, belt(100, 1, [3]int{3, 90, 5}, [3]int{7, 80, 23}), 1, size, size <= 56)
		checkEnter(t, belt(100, 20, [3]int{3, 90, 5}, [3]int{7, 60, 2}), 1, size, false)
	}
}

func TestEnterOnSmallBelts(t *testing.T) {
	for _, b := range smallBelts() {
		for size := -1; size <= 8; size++ {
			for _, bag := range []int{-1, 0, 1, 11, 14, 17} {
				want := bag >= 1 && !slices.Contains(bagsOf(b), bag) && size >= 1 && size <= plainFree(b)
				checkEnter(t, b, bag, size, want)
			}
		}
	}
}

func TestEnterItemLimit(t *testing.T) {
	for count := 35; count <= impl.MaxOnBelt; count++ {
		checkEnter(t, rowOfBags(400, 1, count, 2), 100, 1, count < impl.MaxOnBelt)
		checkEnter(t, rowOfBags(400, 1, count, 2), count, 1, false)
	}
	b := belt(400, 0)
	for bag := 1; bag <= 43; bag++ {
		next, ok := impl.Enter(b, bag, 1)
		if ok != (bag <= impl.MaxOnBelt) || len(next.Items) != min(bag, impl.MaxOnBelt) {
			t.Errorf("Enter of bag %d is %v, and leaves %d items", bag, ok, len(next.Items))
		}
		b = impl.Move(next, 1)
	}
}

func checkLeave(t *testing.T, b impl.Belt, want bool) {
	t.Helper()
	after, wantBag := b, 0
	if want {
		after.Items, wantBag = b.Items[1:], b.Items[0].Bag
	}
	if got, bag, ok := impl.Leave(b); !sameBelt(got, after) || bag != wantBag || ok != want {
		t.Errorf("Leave(%v) = %v, %d, %v; want %v, %d, %v", b, got, bag, ok, after, wantBag, want)
	}
}

func TestLeave(t *testing.T) {
	checkLeave(t, belt(10, 1, [3]int{5, 10, 3}, [3]int{2, 4, 2}), true)
	checkLeave(t, belt(10, 1, [3]int{5, 10, 3}, [3]int{2, 6, 2}), true)
	checkLeave(t, belt(10, 1, [3]int{5, 10, 3}), true)
	checkLeave(t, belt(1, 0, [3]int{5, 1, 1}), true)
	checkLeave(t, rowOfBags(400, 0, 40, 10), true)
	checkLeave(t, belt(10, 1, [3]int{5, 9, 3}, [3]int{2, 4, 2}), false)
	checkLeave(t, belt(10, 1, [3]int{5, 3, 3}), false)
	checkLeave(t, belt(10, 1), false)
	checkLeave(t, heldBelt(belt(10, 1)), false)
	checkLeave(t, heldBelt(belt(10, 1, [3]int{5, 10, 3}, [3]int{2, 4, 2})), false)
	checkLeave(t, heldBelt(belt(10, 1, [3]int{5, 9, 3})), false)
	for _, b := range smallBelts() {
		checkLeave(t, b, !b.Held && len(b.Items) > 0 && b.Items[0].Front == b.Len)
	}
}

func TestCoverAt(t *testing.T) {
	cases := []struct {
		b     impl.Belt
		place int
		want  int
	}{
		{belt(10, 1, [3]int{1, 9, 3}, [3]int{2, 4, 2}), 10, 0},
		{belt(10, 1, [3]int{1, 9, 3}, [3]int{2, 4, 2}), 9, 1},
		{belt(10, 1, [3]int{1, 9, 3}, [3]int{2, 4, 2}), 7, 1},
		{belt(10, 1, [3]int{1, 9, 3}, [3]int{2, 4, 2}), 6, 0},
		{belt(10, 1, [3]int{1, 9, 3}, [3]int{2, 4, 2}), 5, 0},
		{belt(10, 1, [3]int{1, 9, 3}, [3]int{2, 4, 2}), 4, 2},
		{belt(10, 1, [3]int{1, 9, 3}, [3]int{2, 4, 2}), 3, 2},
		{belt(10, 1, [3]int{1, 9, 3}, [3]int{2, 4, 2}), 2, 0},
		{heldBelt(belt(10, 1, [3]int{1, 9, 3}, [3]int{2, 4, 2})), 4, 2},
		{belt(400, 0, [3]int{math.MaxInt, 400, 60}), 400, math.MaxInt},
		{belt(400, 0, [3]int{8, 400, 60}), 341, 8},
		{belt(400, 0, [3]int{8, 400, 60}), 340, 0},
		{belt(1, 0, [3]int{8, 1, 1}), 1, 8},
	}
	for _, c := range cases {
		if got := impl.CoverAt(c.b, c.place); got != c.want {
			t.Errorf("CoverAt(%v, %d) = %d, want %d", c.b, c.place, got, c.want)
		}
	}
}

func TestCoverAtOfSmallBelts(t *testing.T) {
	for _, b := range smallBelts() {
		cells := map[int]int{}
		for _, item := range b.Items {
			for n := range item.Len {
				cells[item.Front-n] = item.Bag
			}
		}
		for _, place := range []int{math.MinInt, -1, 0, 1, 2, 3, 4, 5, 6, 7, 8, math.MaxInt} {
			if got := impl.CoverAt(b, place); got != cells[place] {
				t.Errorf("CoverAt(%v, %d) = %d, want %d", b, place, got, cells[place])
			}
		}
	}
}
