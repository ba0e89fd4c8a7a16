package tests

import (
	"math"
	"math/rand"
	"slices"
	"testing"

	"loop.example/g03319/impl"
)

// A cargo is pieces that are to be packed by limits.
type cargo struct {
	m    impl.Limits
	list []impl.Piece
}

// smallCargos returns all lists of up to four pieces with some weights and classes, for some limits.
func smallCargos() []cargo {
	all := []cargo{}
	for _, m := range []impl.Limits{limits(60, 1), limits(60, 2), limits(60, 3), limits(61, 2), limits(90, 3), limits(2000, 40)} {
		all = addSmallCargos(all, m, nil, []int{5, 2, 9, 1})
	}
	return all
}

// addSmallCargos adds the list and all lists in which some pieces with these bags, in this order, follow it.
func addSmallCargos(all []cargo, m impl.Limits, list []impl.Piece, bags []int) []cargo {
	all = append(all, cargo{m, list})
	for _, weight := range []int{20, 30, 31, 60} {
		for class := 0; len(bags) > 0 && class <= 5; class += 5 {
			longer := append(slices.Clone(list), impl.Piece{Bag: bags[0], Weight: weight, Class: class})
			all = addSmallCargos(all, m, longer, bags[1:])
		}
	}
	return all
}

// randomCargos returns valid limits and lists of up to so many pieces; in some of them many pieces have the same weight.
func randomCargos(count, most int) []cargo {
	r := rand.New(rand.NewSource(22))
	all := []cargo{}
	for range count {
		c := cargo{m: limits(60+r.Intn([]int{1, 2, 10, 100, 1941}[r.Intn(5)]), 1+r.Intn([]int{1, 3, 8, 40}[r.Intn(4)]))}
		classes, least, spread := 1+r.Intn(6), 1+r.Intn(60), 1+r.Intn(60)
		names := r.Perm(100)
		for _, name := range names[:r.Intn(most+1)] {
			weight := min(least+r.Intn(spread), 60)
			c.list = append(c.list, impl.Piece{Bag: name + 1, Weight: weight, Class: r.Intn(classes)})
		}
		all = append(all, c)
	}
	return all
}

func checkFirstFit(t *testing.T, m impl.Limits, list []impl.Piece, want ...impl.Box) {
	t.Helper()
	if got := impl.FirstFit(m, list); !sameBoxes(got, want) {
		t.Errorf("FirstFit(%v, %v) = %v, want %v", m, list, got, want)
	}
}

func checkRepack(t *testing.T, m impl.Limits, list []impl.Piece, want ...impl.Box) {
	t.Helper()
	if got := impl.Repack(m, list); !sameBoxes(got, want) {
		t.Errorf("Repack(%v, %v) = %v, want %v", m, list, got, want)
	}
}

// checkBothPacked checks that FirstFit and Repack return these boxes.
func checkBothPacked(t *testing.T, m impl.Limits, list []impl.Piece, want ...impl.Box) {
	t.Helper()
	checkFirstFit(t, m, list, want...)
	checkRepack(t, m, list, want...)
}

func TestFirstFit(t *testing.T) {
	checkBothPacked(t, limits(60, 3), nil)
	checkBothPacked(t, limits(60, 1), pieces([3]int{7, 60, 5}), boxOf(5, 60, 7))
	checkBothPacked(t, limits(60, 3), fourPieces(), boxOf(0, 51, 1, 3), boxOf(0, 30, 2), boxOf(1, 15, 4))
	checkBothPacked(t, limits(60, 1), fourPieces(), boxOf(0, 31, 1), boxOf(0, 30, 2), boxOf(0, 20, 3), boxOf(1, 15, 4))
	checkBothPacked(t, limits(61, 2), fourPieces(), boxOf(0, 61, 1, 2), boxOf(0, 20, 3), boxOf(1, 15, 4))
	checkBothPacked(t, limits(81, 3), fourPieces(), boxOf(0, 81, 1, 2, 3), boxOf(1, 15, 4))
	checkBothPacked(t, limits(2000, 40), fourPieces(), boxOf(0, 81, 1, 2, 3), boxOf(1, 15, 4))
}

func TestFirstFitTakesTheFirstBoxAndNotTheFullestOne(t *testing.T) {
	checkBothPacked(t, limits(60, 9), heavy(40, 35, 25, 20), boxOf(0, 60, 1, 4), boxOf(0, 60, 2, 3))
	checkBothPacked(t, limits(60, 9), heavy(40, 35, 10, 9), boxOf(0, 59, 1, 3, 4), boxOf(0, 35, 2))
	checkFirstFit(t, limits(60, 9), heavy(30, 45, 15), boxOf(0, 45, 1, 3), boxOf(0, 45, 2))
	checkFirstFit(t, limits(60, 9), heavy(50, 60, 20, 40, 10, 5), boxOf(0, 60, 1, 5), boxOf(0, 60, 2), boxOf(0, 60, 3, 4), boxOf(0, 5, 6))
}

func TestFirstFitFullByNumber(t *testing.T) {
	checkBothPacked(t, limits(2000, 2), equal(5, 1), boxOf(0, 2, 1, 2), boxOf(0, 2, 3, 4), boxOf(0, 1, 5))
	checkBothPacked(t, limits(2000, 3), equal(5, 1), boxOf(0, 3, 1, 2, 3), boxOf(0, 2, 4, 5))
	checkBothPacked(t, limits(2000, 39), equal(40, 1), boxOf(0, 39, numbers(1, 39)...), boxOf(0, 1, 40))
	checkBothPacked(t, limits(2000, 40), equal(40, 1), boxOf(0, 40, numbers(1, 40)...))
	checkBothPacked(t, limits(60, 1), equal(3, 1), boxOf(0, 1, 1), boxOf(0, 1, 2), boxOf(0, 1, 3))
}

func TestFirstFitFullByWeight(t *testing.T) {
	checkBothPacked(t, limits(60, 40), heavy(30, 30), boxOf(0, 60, 1, 2))
	checkBothPacked(t, limits(60, 40), heavy(31, 30), boxOf(0, 31, 1), boxOf(0, 30, 2))
	checkBothPacked(t, limits(61, 40), heavy(31, 30), boxOf(0, 61, 1, 2))
	checkBothPacked(t, limits(60, 40), heavy(59, 1), boxOf(0, 60, 1, 2))
	checkBothPacked(t, limits(60, 40), heavy(60, 1), boxOf(0, 60, 1), boxOf(0, 1, 2))
	checkBothPacked(t, limits(60, 40), heavy(20, 20, 20, 1), boxOf(0, 60, 1, 2, 3), boxOf(0, 1, 4))
	checkBothPacked(t, limits(2000, 40), equal(40, 50), boxOf(0, 2000, numbers(1, 40)...))
	checkBothPacked(t, limits(1999, 40), equal(40, 50), boxOf(0, 1950, numbers(1, 39)...), boxOf(0, 50, 40))
	checkBothPacked(t, limits(2000, 40), equal(40, 60), boxOf(0, 1980, numbers(1, 33)...), boxOf(0, 420, numbers(34, 7)...))
}

func TestFirstFitOfSeveralClassesInTurn(t *testing.T) {
	list := []impl.Piece{}
	for i := range 12 {
		list = append(list, impl.Piece{Bag: 20 - i, Weight: 30 - i, Class: i % 3})
	}
	checkBothPacked(t, limits(60, 2), list,
		boxOf(0, 57, 20, 17), boxOf(1, 55, 19, 16), boxOf(2, 53, 18, 15), boxOf(0, 45, 14, 11), boxOf(1, 43, 13, 10), boxOf(2, 41, 12, 9))
	checkBothPacked(t, limits(75, 3), list,
		boxOf(0, 57, 20, 17), boxOf(1, 75, 19, 16, 10), boxOf(2, 75, 18, 15, 12), boxOf(0, 45, 14, 11), boxOf(1, 23, 13), boxOf(2, 19, 9))
	checkBothPacked(t, limits(60, 40), pieces([3]int{1, 2, 5}, [3]int{2, 2, 0}, [3]int{3, 1, 5}, [3]int{4, 1, 0}), boxOf(5, 3, 1, 3), boxOf(0, 3, 2, 4))
	full := impl.FirstFit(limits(2000, 40), fullList())
	for class, box := range full {
		count := 7 - class/4
		if box.Class != class || len(box.Bags) != count || box.Weight != 60*count || box.Bags[count-1] != class+6*count-5 {
			t.Errorf("box %d of the full list is %v", class, box)
		}
	}
	if len(full) != 6 {
		t.Errorf("the full list is in %d boxes, want 6", len(full))
	}
}

func TestRepackSorts(t *testing.T) {
	m := limits(60, 3)
	checkRepack(t, m, heavy(10, 20, 30), boxOf(0, 60, 3, 2, 1))
	checkRepack(t, m, heavy(5, 50, 10, 60), boxOf(0, 60, 4), boxOf(0, 60, 2, 3), boxOf(0, 5, 1))
	checkFirstFit(t, m, heavy(5, 50, 10, 60), boxOf(0, 55, 1, 2), boxOf(0, 10, 3), boxOf(0, 60, 4))
	// The classes are not sorted: the box of the heaviest piece is the first one.
	checkRepack(t, m, pieces([3]int{1, 5, 0}, [3]int{2, 9, 4}, [3]int{3, 7, 2}), boxOf(4, 9, 2), boxOf(2, 7, 3), boxOf(0, 5, 1))
	checkRepack(t, m, pieces([3]int{3, 5, 0}, [3]int{2, 5, 4}, [3]int{1, 5, 2}), boxOf(2, 5, 1), boxOf(4, 5, 2), boxOf(0, 5, 3))
}

func TestRepackOfPiecesWithTheSameWeight(t *testing.T) {
	m := limits(60, 2)
	checkRepack(t, m, pieces([3]int{9, 5, 0}, [3]int{2, 5, 0}, [3]int{5, 5, 0}), boxOf(0, 10, 2, 5), boxOf(0, 5, 9))
	checkFirstFit(t, m, pieces([3]int{9, 5, 0}, [3]int{2, 5, 0}, [3]int{5, 5, 0}), boxOf(0, 10, 9, 2), boxOf(0, 5, 5))
	checkRepack(t, m, pieces([3]int{9, 5, 0}, [3]int{2, 4, 0}, [3]int{5, 5, 0}, [3]int{1, 4, 0}), boxOf(0, 10, 5, 9), boxOf(0, 8, 1, 2))
	list := equal(40, 7)
	slices.Reverse(list)
	checkRepack(t, limits(2000, 40), list, boxOf(0, 280, numbers(1, 40)...))
	greatest := pieces([3]int{math.MaxInt, 5, 0}, [3]int{1, 5, 0}, [3]int{math.MaxInt - 1, 5, 0})
	checkRepack(t, limits(60, 40), greatest, boxOf(0, 15, 1, math.MaxInt-1, math.MaxInt))
}

// plainFirstFit gives each piece the number of a box, and looks at all pieces to see what a box has.
func plainFirstFit(m impl.Limits, list []impl.Piece) []impl.Box {
	boxes := []impl.Box{}
	for _, piece := range list {
		at := 0
		for at < len(boxes) && (boxes[at].Class != piece.Class || len(boxes[at].Bags)+1 > m.Count || plainWeight(list, boxes[at])+piece.Weight > m.Weight) {
			at++
		}
		if at == len(boxes) {
			boxes = append(boxes, boxOf(piece.Class, 0))
		}
		boxes[at].Bags = append(boxes[at].Bags, piece.Bag)
		boxes[at].Weight = plainWeight(list, boxes[at])
	}
	return boxes
}

// plainWeight returns the weight together of the pieces whose bags the box has.
func plainWeight(list []impl.Piece, box impl.Box) int {
	weight := 0
	for _, piece := range list {
		if slices.Contains(box.Bags, piece.Bag) {
			weight += piece.Weight
		}
	}
	return weight
}

// plainSorted takes the heaviest piece, and of several the one with the least bag, again and again.
func plainSorted(list []impl.Piece) []impl.Piece {
	left, sorted := slices.Clone(list), []impl.Piece{}
	for len(left) > 0 {
		best := 0
		for i, piece := range left {
			if piece.Weight > left[best].Weight || piece.Weight == left[best].Weight && piece.Bag < left[best].Bag {
				best = i
			}
		}
		sorted = append(sorted, left[best])
		left = slices.Delete(left, best, best+1)
	}
	return sorted
}

// plainBoxesOk counts in how many places each bag is.
func plainBoxesOk(m impl.Limits, list []impl.Piece, boxes []impl.Box) bool {
	if !plainPiecesOk(list) || m.Weight < 60 || m.Weight > 2000 || m.Count < 1 || m.Count > 40 {
		return false
	}
	left := map[int]impl.Piece{}
	for _, piece := range list {
		left[piece.Bag] = piece
	}
	for _, box := range boxes {
		if len(box.Bags) == 0 || len(box.Bags) > m.Count || box.Weight > m.Weight || box.Weight != plainWeight(list, box) {
			return false
		}
		for _, bag := range box.Bags {
			if piece, ok := left[bag]; !ok || piece.Class != box.Class {
				return false
			}
			delete(left, bag)
		}
	}
	return len(left) == 0
}

func TestPackingOfSmallAndRandomCargos(t *testing.T) {
	differ := 0
	for _, c := range append(smallCargos(), randomCargos(10000, impl.MaxPieces)...) {
		first, again := plainFirstFit(c.m, c.list), plainFirstFit(c.m, plainSorted(c.list))
		checkFirstFit(t, c.m, c.list, first...)
		checkRepack(t, c.m, c.list, again...)
		if len(first) != len(again) {
			differ++
		}
	}
	if differ < 300 {
		t.Errorf("FirstFit and Repack make another number of boxes for only %d of the lists", differ)
	}
}

func TestPackedPiecesArePackedAsTheyMayBe(t *testing.T) {
	for _, c := range append(smallCargos(), randomCargos(10000, impl.MaxPieces)...) {
		for _, boxes := range [][]impl.Box{impl.FirstFit(c.m, c.list), impl.Repack(c.m, c.list)} {
			if !impl.BoxesOk(c.m, c.list, boxes) || !plainBoxesOk(c.m, c.list, boxes) {
				t.Errorf("%v are packed by %v into %v", c.list, c.m, boxes)
			}
			if bound := impl.BoxBound(c.m, c.list); len(boxes) < bound {
				t.Errorf("%v are packed by %v into %d boxes, but the bound is %d", c.list, c.m, len(boxes), bound)
			}
		}
	}
}

func checkBoxesOk(t *testing.T, m impl.Limits, list []impl.Piece, want bool, boxes ...impl.Box) {
	t.Helper()
	if got := impl.BoxesOk(m, list, boxes); got != want {
		t.Errorf("BoxesOk(%v, %v, %v) = %v", m, list, boxes, got)
	}
}

func TestBoxesOk(t *testing.T) {
	m, list := limits(60, 3), fourPieces()
	checkBoxesOk(t, m, nil, true)
	checkBoxesOk(t, m, list, true, boxOf(0, 51, 1, 3), boxOf(0, 30, 2), boxOf(1, 15, 4))
	checkBoxesOk(t, m, list, true, boxOf(0, 51, 3, 1), boxOf(1, 15, 4), boxOf(0, 30, 2))
	checkBoxesOk(t, m, list, true, boxOf(1, 15, 4), boxOf(0, 50, 3, 2), boxOf(0, 31, 1))
	checkBoxesOk(t, m, list, true, boxEach(list)...)
	checkBoxesOk(t, limits(2000, 40), list, true, boxEach(list)...)
	checkBoxesOk(t, limits(2000, 40), list, true, boxOf(0, 81, 2, 3, 1), boxOf(1, 15, 4))
	checkBoxesOk(t, limits(60, 1), fullList(), true, boxEach(fullList())...)
	checkBoxesOk(t, limits(2000, 40), equal(40, 50), true, boxOf(0, 2000, numbers(1, 40)...))
}

func TestBoxesOkLimits(t *testing.T) {
	for weight := 60; weight <= 66; weight++ {
		checkBoxesOk(t, limits(weight, 9), heavy(30, 20, 13), weight >= 63, boxOf(0, 63, 1, 2, 3))
		checkBoxesOk(t, limits(weight, 9), heavy(60, 30, 20, 13), weight >= 63, boxOf(0, 60, 1), boxOf(0, 63, 2, 3, 4))
	}
	for count := 1; count <= 40; count++ {
		checkBoxesOk(t, limits(2000, count), equal(3, 5), count >= 3, boxOf(0, 15, 1, 2, 3))
		checkBoxesOk(t, limits(2000, count), equal(40, 5), count >= 39, boxOf(0, 5, 40), boxOf(0, 195, numbers(1, 39)...))
		checkBoxesOk(t, limits(2000, count), equal(40, 5), count == 40, boxOf(0, 200, numbers(1, 40)...))
	}
}

// wrongBoxes are boxes that are wrong for fourPieces and limits(60, 3), each in a way that BoxesOk names.
func wrongBoxes() map[string][]impl.Box {
	all, two, four := boxOf(0, 51, 1, 3), boxOf(0, 30, 2), boxOf(1, 15, 4)
	list := map[string][]impl.Box{
		"no boxes":                          nil,
		"first box missing":                 {two, four},
		"last box missing":                  {all, two},
		"piece missing":                     {boxOf(0, 31, 1), two, four},
		"piece missing, weight as if there": {boxOf(0, 51, 1), two, four},
		"piece twice in a box":              {boxOf(0, 51, 1, 3, 3), two, four},
		"piece twice, both weights":         {boxOf(0, 51, 1, 3), boxOf(0, 60, 2, 2), four},
		"twice for a missing one":           {boxOf(0, 31, 1), boxOf(0, 60, 2, 2), four},
		"twice for a missing one, weight 1": {boxOf(0, 31, 1), boxOf(0, 30, 2, 2), four},
		"piece in two boxes":                {all, two, boxOf(0, 20, 3), four},
		"in two boxes, another missing":     {all, boxOf(0, 20, 3), four},
		"box twice":                         {all, two, four, four},
		"all boxes twice":                   {all, two, four, all, two, four},
		"piece of another class":            {all, boxOf(0, 45, 2, 4)},
		"box of another class":              {all, two, boxOf(0, 15, 4)},
		"box of a class without pieces":     {all, two, boxOf(2, 15, 4)},
		"first class is wrong":              {boxOf(1, 51, 1, 3), two, four},
		"class of the last piece":           {all, boxOf(1, 45, 2, 4)},
		"class -1":                          {all, two, boxOf(-1, 15, 4)},
		"class 6":                           {all, two, boxOf(6, 15, 4)},
		"zero box":                          {all, two, four, {}},
		"zero box first":                    {{}, all, two, four},
		"zero box alone":                    {{}},
		"box without bags, weight":          {all, two, boxOf(1, 15), four},
		"box without bags for a piece":      {all, two, boxOf(1, 15)},
		"no piece":                          {all, two, four, boxOf(0, 0, 5)},
		"no piece in a box":                 {boxOf(0, 51, 1, 3, 5), two, four},
		"no piece for a piece":              {all, two, boxOf(1, 15, 5)},
		"no piece, class 0, for a piece":    {all, two, boxOf(0, 0, 5)},
		"no piece in a box for a piece":     {boxOf(0, 31, 1, 5), two, four},
		"bag 0 in a box for a piece":        {all, boxOf(0, 30, 2, 0)},
		"bag 0":                             {all, two, boxOf(1, 15, 4, 0)},
		"bag -1":                            {all, two, boxOf(1, 15, -1)},
		"weight over":                       {boxOf(0, 61, 1, 2), boxOf(0, 20, 3), four},
		"weight over, limit as weight":      {boxOf(0, 60, 1, 2), boxOf(0, 20, 3), four},
		"weight and count over":             {boxOf(0, 96, 1, 2, 3, 4)},
		"great box":                         {boxOf(0, 51, slices.Repeat([]int{1, 3}, 100000)...), two, four},
		"many boxes":                        append(slices.Repeat([]impl.Box{all, four}, 10000), two),
	}
	for _, n := range []int{math.MinInt, -15, -1, 0, 14, 16, 30, 60, 61, math.MaxInt} {
		list["last weight "+impl.FormatInt(n)] = []impl.Box{all, two, boxOf(1, n, 4)}
		list["first weight "+impl.FormatInt(n)] = []impl.Box{boxOf(0, n, 1, 3), two, four}
	}
	return list
}

func TestBoxesOkInvalid(t *testing.T) {
	for name, boxes := range wrongBoxes() {
		if impl.BoxesOk(limits(60, 3), fourPieces(), boxes) {
			t.Errorf("BoxesOk(%s) = true", name)
		}
	}
	checkBoxesOk(t, limits(2000, 3), equal(4, 5), false, boxOf(0, 20, 1, 2, 3, 4))
	checkBoxesOk(t, limits(2000, 1), fourPieces(), false, boxOf(0, 51, 1, 3), boxOf(0, 30, 2), boxOf(1, 15, 4))
	checkBoxesOk(t, limits(60, 3), nil, false, boxOf(0, 5, 1))
	checkBoxesOk(t, limits(60, 3), nil, false, impl.Box{})
	checkBoxesOk(t, limits(2000, 40), equal(40, 60), false, boxOf(0, 2400, numbers(1, 40)...))
}

// smallBoxes returns boxes of the pieces 1, 2 and 3, with the weights 30, 20 and 10, and of bag 4, which is no piece. The
// number tells their bags and classes, and whether their weights are wrong.
func smallBoxes(n int) []impl.Box {
	boxes := []impl.Box{}
	for n > 0 {
		box := boxOf(n%2, 0)
		for n /= 2; n > 0 && n%5 != 0; n /= 5 {
			box.Bags = append(box.Bags, n%5)
			box.Weight += []int{0, 30, 20, 10, 0}[n%5]
		}
		n /= 5
		box.Weight += []int{0, 0, 0, 1}[n%4]
		n /= 4
		boxes = append(boxes, box)
	}
	return boxes
}

func TestBoxesOkOfSmallBoxes(t *testing.T) {
	counts := map[bool]int{}
	for n := range 400000 {
		boxes := smallBoxes(n)
		for _, list := range [][]impl.Piece{heavy(30, 20, 10), pieces([3]int{1, 30, 0}, [3]int{2, 20, 1}, [3]int{3, 10, 1})} {
			for _, m := range []impl.Limits{limits(60, 3), limits(60, 2), limits(60, 1), limits(60, 0)} {
				want := plainBoxesOk(m, list, boxes)
				counts[want]++
				checkBoxesOk(t, m, list, want, boxes...)
			}
		}
	}
	if counts[true] < 300 || counts[false] < 1000000 {
		t.Errorf("few of the boxes are right, or few are not: %v", counts)
	}
}

// randomPacking puts each piece into any box in which it may be, or into a new one.
func randomPacking(r *rand.Rand, c cargo) []impl.Box {
	boxes := []impl.Box{}
	for _, i := range r.Perm(len(c.list)) {
		piece := c.list[i]
		at := r.Intn(len(boxes) + 1)
		if at == len(boxes) || boxes[at].Class != piece.Class || boxes[at].Weight+piece.Weight > c.m.Weight || len(boxes[at].Bags) == c.m.Count {
			boxes = append(boxes, boxOf(piece.Class, piece.Weight, piece.Bag))
			continue
		}
		boxes[at].Weight += piece.Weight
		boxes[at].Bags = append(boxes[at].Bags, piece.Bag)
	}
	return boxes
}

// disturbed returns the boxes, which are right and some, after a change to one of them that may make them wrong.
func disturbed(r *rand.Rand, boxes []impl.Box) []impl.Box {
	list := copyBoxes(boxes)
	at, other := r.Intn(len(list)), r.Intn(len(list))
	bag := r.Intn(len(list[at].Bags))
	switch r.Intn(8) {
	case 0:
		list[at].Bags[bag] = list[other].Bags[0]
	case 1:
		list[at].Bags = slices.Delete(list[at].Bags, bag, bag+1)
	case 2:
		list[at].Weight += r.Intn(3) - 1
	case 3:
		list[at].Class = list[other].Class
	case 4:
		list[at].Bags[bag], list[other].Bags[0] = list[other].Bags[0], list[at].Bags[bag]
	case 5:
		list = append(list, list[at])
	case 6:
		list = slices.Delete(list, at, at+1)
	case 7:
		list[at].Bags = append(list[at].Bags, r.Intn(102))
	}
	return list
}

func TestBoxesOkOfRandomPackings(t *testing.T) {
	r := rand.New(rand.NewSource(23))
	counts := map[bool]int{}
	for _, c := range randomCargos(10000, impl.MaxPieces) {
		boxes := randomPacking(r, c)
		checkBoxesOk(t, c.m, c.list, true, boxes...)
		for range min(len(boxes), 4) {
			wrong := disturbed(r, boxes)
			want := plainBoxesOk(c.m, c.list, wrong)
			counts[want]++
			checkBoxesOk(t, c.m, c.list, want, wrong...)
		}
	}
	if counts[true] < 1000 || counts[false] < 1000 {
		t.Errorf("few of the boxes are right, or few are not: %v", counts)
	}
}
