package tests

import (
	"math/rand"
	"slices"
	"testing"

	"loop.example/g03319/impl"
)

func checkFewest(t *testing.T, m impl.Limits, list []impl.Piece, want int) {
	t.Helper()
	if got := impl.FewestBoxes(m, list); got != want {
		t.Errorf("FewestBoxes(%v, %v) = %d, want %d", m, list, got, want)
	}
}

func checkBound(t *testing.T, m impl.Limits, list []impl.Piece, want int) {
	t.Helper()
	if got := impl.BoxBound(m, list); got != want {
		t.Errorf("BoxBound(%v, %v) = %d, want %d", m, list, got, want)
	}
}

// checkBoxes checks the number of boxes of FirstFit and of Repack, the least number and the bound.
func checkBoxes(t *testing.T, m impl.Limits, list []impl.Piece, first, again, fewest, bound int) {
	t.Helper()
	if got := len(impl.FirstFit(m, list)); got != first {
		t.Errorf("FirstFit(%v, %v) has %d boxes, want %d", m, list, got, first)
	}
	if got := len(impl.Repack(m, list)); got != again {
		t.Errorf("Repack(%v, %v) has %d boxes, want %d", m, list, got, again)
	}
	checkFewest(t, m, list, fewest)
	checkBound(t, m, list, bound)
}

func TestFewestBoxes(t *testing.T) {
	checkBoxes(t, limits(60, 3), nil, 0, 0, 0, 0)
	checkBoxes(t, limits(2000, 40), []impl.Piece{}, 0, 0, 0, 0)
	checkBoxes(t, limits(60, 1), heavy(60), 1, 1, 1, 1)
	checkBoxes(t, limits(60, 1), pieces([3]int{1, 1, 5}), 1, 1, 1, 1)
	checkBoxes(t, limits(60, 3), fourPieces(), 3, 3, 3, 3)
	checkBoxes(t, limits(2000, 40), fourPieces(), 2, 2, 2, 2)
	checkBoxes(t, limits(60, 40), heavy(60, 60, 60), 3, 3, 3, 3)
	checkBoxes(t, limits(60, 1), equal(8, 1), 8, 8, 8, 8)
	checkBoxes(t, limits(60, 3), equal(8, 1), 3, 3, 3, 3)
	checkBoxes(t, limits(60, 8), equal(8, 60), 8, 8, 8, 8)
	checkBoxes(t, limits(480, 8), equal(8, 60), 1, 1, 1, 1)
	checkBoxes(t, limits(479, 8), equal(8, 60), 2, 2, 2, 2)
	checkBoxes(t, limits(480, 7), equal(8, 60), 2, 2, 2, 2)
}

func TestFewestBoxesWhereFirstFitHasMore(t *testing.T) {
	// First fit puts the small pieces together, and then the heavy ones fit nowhere.
	checkBoxes(t, limits(60, 9), heavy(20, 20, 40, 40), 3, 2, 2, 2)
	checkBoxes(t, limits(60, 9), heavy(10, 11, 50, 49), 3, 2, 2, 2)
	checkBoxes(t, limits(60, 2), heavy(1, 1, 59, 59), 3, 2, 2, 2)
}

func TestFewestBoxesWhereRepackHasMore(t *testing.T) {
	// By falling weights, 24 and 24 are in one box, 18, 18 and 18 in the next one; 18 is left.
	checkBoxes(t, limits(60, 9), heavy(24, 24, 18, 18, 18, 18), 3, 3, 2, 2)
	checkBoxes(t, limits(60, 9), heavy(24, 18, 18, 24, 18, 18), 2, 3, 2, 2)
	checkBoxes(t, limits(60, 9), heavy(30, 30, 20, 20, 10, 10), 2, 2, 2, 2)
	checkBoxes(t, limits(60, 9), heavy(26, 26, 17, 17, 17, 17), 3, 3, 2, 2)
	// In the class 5 one box could be saved, in the class 0 none.
	two := pieces([3]int{1, 24, 5}, [3]int{2, 24, 5}, [3]int{3, 18, 5}, [3]int{4, 18, 5}, [3]int{5, 18, 5}, [3]int{6, 18, 5})
	two = append(two, pieces([3]int{7, 60, 0}, [3]int{8, 1, 0})...)
	checkBoxes(t, limits(60, 9), two, 5, 5, 4, 4)
}

func TestFewestBoxesOverTheBound(t *testing.T) {
	checkBoxes(t, limits(60, 9), heavy(31, 31, 31), 3, 3, 3, 2)
	checkBoxes(t, limits(60, 9), equal(8, 31), 8, 8, 8, 5)
	checkBoxes(t, limits(60, 9), heavy(41, 20, 40, 21), 3, 3, 3, 3)
	checkBoxes(t, limits(60, 2), heavy(40, 21, 21, 21), 3, 3, 3, 2)
	checkBoxes(t, limits(60, 2), heavy(41, 39, 5, 5, 5), 3, 3, 3, 3)
	checkBoxes(t, limits(60, 3), heavy(60, 1, 1, 1, 1), 3, 3, 3, 2)
}

func TestBoundByWeightAndByNumber(t *testing.T) {
	for n := 1; n <= 40; n++ {
		checkBound(t, limits(60, 40), equal(n, 60), n)
		checkBound(t, limits(2000, 1), equal(n, 1), n)
		checkBound(t, limits(120, 40), equal(n, 60), (n+1)/2)
		checkBound(t, limits(119, 40), equal(n, 60), n/2+1)
		checkBound(t, limits(2000, 2), equal(n, 60), (n+1)/2)
		checkBound(t, limits(2000, 40), equal(n, 50), 1)
		checkBound(t, limits(1950, 40), equal(n, 50), 1+n/40)
		checkBound(t, limits(2000, 39), equal(n, 50), 1+n/40)
	}
	checkBound(t, limits(60, 40), heavy(30, 30), 1)
	checkBound(t, limits(60, 40), heavy(30, 31), 2)
	checkBound(t, limits(60, 40), heavy(60, 59, 1), 2)
	checkBound(t, limits(60, 40), heavy(60, 60, 1), 3)
}

func TestBoundIsSummedOverTheClasses(t *testing.T) {
	// The bound of the class 0 comes from the number of its pieces, that of the class 5 from their weight.
	mixed := pieces([3]int{1, 1, 0}, [3]int{2, 60, 5}, [3]int{3, 1, 0}, [3]int{4, 60, 5}, [3]int{5, 1, 0}, [3]int{6, 1, 5})
	checkBoxes(t, limits(60, 2), mixed, 5, 5, 5, 5)
	checkBoxes(t, limits(60, 1), mixed, 6, 6, 6, 6)
	checkBoxes(t, limits(60, 3), mixed, 4, 4, 4, 4)
	checkBoxes(t, limits(120, 3), mixed, 3, 3, 3, 3)
	checkBoxes(t, limits(121, 3), mixed, 2, 2, 2, 2)
	checkBound(t, limits(60, 40), fullList(), 40)
	checkBound(t, limits(120, 40), fullList(), 4*4+2*3)
	checkBound(t, limits(2000, 40), fullList(), 6)
	checkBound(t, limits(2000, 6), fullList(), 4*2+2)
	for class := range impl.MaxClass + 1 {
		checkBoxes(t, limits(60, 2), pieces([3]int{1, 7, class}, [3]int{2, 7, class}, [3]int{3, 7, class}), 2, 2, 2, 2)
		checkBoxes(t, limits(60, 2), pieces([3]int{1, 7, class}, [3]int{2, 7, (class + 1) % 6}), 2, 2, 2, 2)
	}
}

func TestFewestBoxesPieceLimit(t *testing.T) {
	for n := range 41 {
		want := -1
		if n <= 8 {
			want = (n + 2) / 3
		}
		checkFewest(t, limits(60, 3), equal(n, 5), want)
		checkFewest(t, limits(2000, 3), equal(n, 60), want)
		checkBound(t, limits(2000, 3), equal(n, 60), (n+2)/3)
	}
	checkFewest(t, limits(60, 3), fullList(), -1)
	checkFewest(t, limits(60, 3), append(equal(8, 5), impl.Piece{Bag: 9, Weight: 5, Class: 5}), -1)
	checkFewest(t, limits(60, 3), append(equal(7, 5), impl.Piece{Bag: 9, Weight: 5, Class: 5}), 4)
}

// eachPacking calls visit with all ways to put the pieces of the list from the index i on into these boxes or new ones, be
// they right or not; the boxes are not to be kept.
func eachPacking(list []impl.Piece, i int, boxes []impl.Box, visit func(boxes []impl.Box)) {
	if i == len(list) {
		visit(boxes)
		return
	}
	piece := list[i]
	for at, box := range boxes {
		boxes[at] = boxOf(box.Class, box.Weight+piece.Weight, append(slices.Clone(box.Bags), piece.Bag)...)
		eachPacking(list, i+1, boxes, visit)
		boxes[at] = box
	}
	alone := append(slices.Clone(boxes), boxOf(piece.Class, piece.Weight, piece.Bag))
	eachPacking(list, i+1, alone, visit)
}

// plainFewest tries all packings; it returns -1 if none is right.
func plainFewest(c cargo) int {
	fewest := -1
	eachPacking(c.list, 0, nil, func(boxes []impl.Box) {
		if (fewest == -1 || len(boxes) < fewest) && plainBoxesOk(c.m, c.list, boxes) {
			fewest = len(boxes)
		}
	})
	return fewest
}

// fewestBySets returns the least number of boxes for each set of pieces, the bits of an index.
func fewestBySets(c cargo) []int {
	list := []int{0}
	for set := 1; set < 1<<len(c.list); set++ {
		least := len(c.list)
		for part := set; part > 0; part = (part - 1) & set {
			if setFits(c, part) {
				least = min(least, 1+list[set^part])
			}
		}
		list = append(list, least)
	}
	return list
}

// setFits reports whether the pieces of the set fit into one box.
func setFits(c cargo, set int) bool {
	weight := 0
	indexes := indexesOf(set)
	for _, i := range indexes {
		weight += c.list[i].Weight
		if c.list[i].Class != c.list[indexes[0]].Class {
			return false
		}
	}
	return weight <= c.m.Weight && len(indexes) <= c.m.Count
}

func plainBound(c cargo) int {
	boxes := 0
	for class := 0; class <= 5; class++ {
		weight, count := 0, 0
		for _, piece := range c.list {
			if piece.Class == class {
				weight, count = weight+piece.Weight, count+1
			}
		}
		for ; weight > 0 || count > 0; boxes++ {
			weight, count = weight-c.m.Weight, count-c.m.Count
		}
	}
	return boxes
}

func TestBoundOfSmallAndRandomCargos(t *testing.T) {
	for _, c := range append(smallCargos(), randomCargos(20000, impl.MaxPieces)...) {
		checkBound(t, c.m, c.list, plainBound(c))
	}
}

func TestFewestBoxesOfSmallAndRandomCargos(t *testing.T) {
	for _, c := range append(smallCargos(), randomCargos(3000, 6)...) {
		checkFewest(t, c.m, c.list, plainFewest(c))
	}
	for _, c := range randomCargos(500, impl.MaxExactPieces) {
		checkFewest(t, c.m, c.list, plainFewest(c))
	}
}

// tightCargos returns cargos with 6 to 8 pieces, few classes and boxes into which two to four of the pieces fit.
func tightCargos(count int) []cargo {
	r := rand.New(rand.NewSource(24))
	all := []cargo{}
	for range count {
		c := cargo{m: limits(60+r.Intn(40), 2+r.Intn(4))}
		classes, least := 1+r.Intn(2), []int{14, 25}[r.Intn(2)]
		for i := range 6 + r.Intn(3) {
			c.list = append(c.list, impl.Piece{Bag: 50 - 3*i, Weight: least + r.Intn(20), Class: r.Intn(classes)})
		}
		all = append(all, c)
	}
	return all
}

func TestFewestBoxesOfTightCargos(t *testing.T) {
	over, more := 0, 0
	for _, c := range tightCargos(3000) {
		want := fewestBySets(c)[1<<len(c.list)-1]
		checkFewest(t, c.m, c.list, want)
		if want > impl.BoxBound(c.m, c.list) {
			over++
		}
		if want < len(impl.Repack(c.m, c.list)) {
			more++
		}
	}
	if over < 200 || more < 30 {
		t.Errorf("only %d cargos need more boxes than the bound, in %d alone Repack has more than that", over, more)
	}
}

func TestNoPackingHasFewerBoxesThanTheLeastNumber(t *testing.T) {
	r := rand.New(rand.NewSource(25))
	for _, c := range slices.Concat(smallCargos(), randomCargos(3000, impl.MaxExactPieces), tightCargos(1000)) {
		fewest := impl.FewestBoxes(c.m, c.list)
		if bound := impl.BoxBound(c.m, c.list); fewest < bound {
			t.Errorf("FewestBoxes(%v) = %d, but the bound is %d", c, fewest, bound)
		}
		packings := [][]impl.Box{impl.FirstFit(c.m, c.list), impl.Repack(c.m, c.list), boxEach(c.list)}
		for range 4 {
			packings = append(packings, randomPacking(r, c))
		}
		for _, boxes := range packings {
			if !impl.BoxesOk(c.m, c.list, boxes) || len(boxes) < fewest {
				t.Errorf("FewestBoxes(%v) = %d, but they are packed into %v", c, fewest, boxes)
			}
		}
	}
}

func TestSomePackingHasTheLeastNumberOfBoxes(t *testing.T) {
	for _, c := range slices.Concat(smallCargos(), randomCargos(1000, 5), tightCargos(20)) {
		fewest, found := impl.FewestBoxes(c.m, c.list), false
		eachPacking(c.list, 0, nil, func(boxes []impl.Box) {
			if len(boxes) <= fewest && impl.BoxesOk(c.m, c.list, boxes) {
				found = true
			}
		})
		if !found {
			t.Errorf("FewestBoxes(%v) = %d, but there is no such packing", c, fewest)
		}
	}
}

func TestFewestBoxesDoesNotDependOnTheOrderOfThePieces(t *testing.T) {
	r := rand.New(rand.NewSource(26))
	for _, c := range tightCargos(500) {
		fewest, bound, boxes := impl.FewestBoxes(c.m, c.list), impl.BoxBound(c.m, c.list), impl.Repack(c.m, c.list)
		r.Shuffle(len(c.list), func(i, j int) { c.list[i], c.list[j] = c.list[j], c.list[i] })
		checkFewest(t, c.m, c.list, fewest)
		checkBound(t, c.m, c.list, bound)
		checkRepack(t, c.m, c.list, boxes...)
	}
}
