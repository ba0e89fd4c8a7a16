package tests

import (
	"math"
	"slices"
	"testing"

	"loop.example/g03319/impl"
)

func TestLoadConstants(t *testing.T) {
	got := []int{impl.MaxPieces, impl.MaxClass, impl.MaxWeight, impl.MaxLimit, impl.MaxExactPieces, impl.MaxExactBoxes}
	want := []int{40, 5, 60, 2000, 8, 12}
	if !slices.Equal(got, want) {
		t.Errorf("constants are %v, want %v", got, want)
	}
}

// pieces returns pieces that are given as bag, weight and class.
func pieces(elements ...[3]int) []impl.Piece {
	list := []impl.Piece{}
	for _, v := range elements {
		list = append(list, impl.Piece{Bag: v[0], Weight: v[1], Class: v[2]})
	}
	return list
}

// heavy returns pieces of class 0 with these weights; the bags are numbered from 1 on.
func heavy(weights ...int) []impl.Piece {
	list := []impl.Piece{}
	for i, weight := range weights {
		list = append(list, impl.Piece{Bag: i + 1, Weight: weight})
	}
	return list
}

// equal returns count pieces of class 0 with the same weight; the bags are numbered from 1 on.
func equal(count, weight int) []impl.Piece {
	return heavy(slices.Repeat([]int{weight}, count)...)
}

func limits(weight, count int) impl.Limits {
	return impl.Limits{Weight: weight, Count: count}
}

func boxOf(class, weight int, bags ...int) impl.Box {
	return impl.Box{Class: class, Weight: weight, Bags: bags}
}

func sameBox(a, b impl.Box) bool {
	return a.Class == b.Class && a.Weight == b.Weight && slices.Equal(a.Bags, b.Bags)
}

func sameBoxes(a, b []impl.Box) bool { return slices.EqualFunc(a, b, sameBox) }

// copyBoxes returns the boxes with bags of their own.
func copyBoxes(boxes []impl.Box) []impl.Box {
	list := []impl.Box{}
	for _, box := range boxes {
		list = append(list, boxOf(box.Class, box.Weight, slices.Clone(box.Bags)...))
	}
	return list
}

// fourPieces are pieces of two classes; by limits(60, 3) the first one and the third one fit into one box.
func fourPieces() []impl.Piece {
	return pieces([3]int{1, 31, 0}, [3]int{2, 30, 0}, [3]int{3, 20, 0}, [3]int{4, 15, 1})
}

// fullList has as many pieces as there may be, each as heavy as it may be; there are pieces of all classes.
func fullList() []impl.Piece {
	list := equal(impl.MaxPieces, impl.MaxWeight)
	for i := range list {
		list[i].Class = i % (impl.MaxClass + 1)
	}
	return list
}

// withChange returns fourPieces with a change to the one with this index.
func withChange(i int, change func(piece *impl.Piece)) []impl.Piece {
	list := fourPieces()
	change(&list[i])
	return list
}

// invalidPieces are lists each of which is invalid in a way that PiecesOk names.
func invalidPieces() map[string][]impl.Piece {
	list := map[string][]impl.Piece{
		"zero":                        make([]impl.Piece, 1),
		"41 pieces":                   equal(41, 1),
		"42 pieces":                   equal(42, 60),
		"100000 pieces":               equal(100000, 5),
		"full list and one more":      append(fullList(), impl.Piece{Bag: 41, Weight: 1}),
		"same bag in all 40":          slices.Repeat(heavy(1), 40),
		"same bag twice":              slices.Repeat(heavy(1), 2),
		"same bag, others in between": append(fourPieces(), impl.Piece{Bag: 1, Weight: 9, Class: 1}),
		"last bag as one before it":   append(fullList()[:39], impl.Piece{Bag: 39, Weight: 5}),
		"only bag 0":                  pieces([3]int{0, 5, 0}),
		"only weight 0":               pieces([3]int{1, 0, 0}),
		"only weight 61":              pieces([3]int{1, 61, 0}),
		"only class -1":               pieces([3]int{1, 5, -1}),
		"only class 6":                pieces([3]int{1, 5, 6}),
	}
	for i, name := range []string{"first", "second", "third", "last"} {
		for _, n := range []int{math.MinInt, -1, 0} {
			list[name+" bag "+impl.FormatInt(n)] = withChange(i, func(piece *impl.Piece) { piece.Bag = n })
		}
		for _, n := range []int{math.MinInt, -5, -1, 0, 61, 62, 2000, math.MaxInt} {
			list[name+" weight "+impl.FormatInt(n)] = withChange(i, func(piece *impl.Piece) { piece.Weight = n })
		}
		for _, n := range []int{math.MinInt, -2, -1, 6, 7, math.MaxInt} {
			list[name+" class "+impl.FormatInt(n)] = withChange(i, func(piece *impl.Piece) { piece.Class = n })
		}
		for bag := 1; bag <= 4; bag++ {
			if bag != i+1 {
				list[name+" bag as bag "+impl.FormatInt(bag)] = withChange(i, func(piece *impl.Piece) { piece.Bag = bag })
			}
		}
	}
	return list
}

// invalidLimits are limits each of which is invalid in a way that LimitsOk names.
func invalidLimits() []impl.Limits {
	list := []impl.Limits{{}, limits(59, 0), limits(2001, 41)}
	for _, n := range []int{math.MinInt, -60, -1, 0, 1, 31, 58, 59, 2001, 2002, math.MaxInt - 1, math.MaxInt} {
		list = append(list, limits(n, 1), limits(n, 3), limits(n, 40))
	}
	for _, n := range []int{math.MinInt, -3, -1, 0, 41, 42, 2000, math.MaxInt - 1, math.MaxInt} {
		list = append(list, limits(60, n), limits(61, n), limits(2000, n))
	}
	return list
}

// validLists are lists that are at the limits of what PiecesOk allows, or inside.
func validLists() map[string][]impl.Piece {
	return map[string][]impl.Piece{
		"nil":                   nil,
		"empty":                 {},
		"least":                 heavy(1),
		"greatest weight":       heavy(60),
		"greatest class":        pieces([3]int{1, 1, 5}),
		"greatest piece":        pieces([3]int{math.MaxInt, 60, 5}),
		"four pieces":           fourPieces(),
		"39 pieces":             equal(39, 60),
		"40 pieces":             equal(40, 60),
		"full list":             fullList(),
		"bags out of order":     pieces([3]int{9, 5, 0}, [3]int{2, 5, 0}, [3]int{5, 5, 0}),
		"bags as weights":       pieces([3]int{9, 5, 2}, [3]int{5, 2, 1}, [3]int{2, 9, 5}, [3]int{1, 1, 1}),
		"alike but for the bag": pieces([3]int{1, 7, 2}, [3]int{2, 7, 2}),
	}
}

func TestPiecesOk(t *testing.T) {
	for name, list := range validLists() {
		if !impl.PiecesOk(list) {
			t.Errorf("PiecesOk(%s: %v) = false", name, list)
		}
	}
}

func TestPiecesOkInvalid(t *testing.T) {
	for name, list := range invalidPieces() {
		if impl.PiecesOk(list) {
			t.Errorf("PiecesOk(%s) = true", name)
		}
	}
}

func checkPiecesOk(t *testing.T, list []impl.Piece, want bool) {
	t.Helper()
	if got := impl.PiecesOk(list); got != want {
		t.Errorf("PiecesOk of %d pieces, %v, is %v", len(list), list, got)
	}
}

func TestPiecesOkLimits(t *testing.T) {
	for n := -3; n <= 65; n++ {
		checkPiecesOk(t, pieces([3]int{n, 5, 0}), n >= 1)
		checkPiecesOk(t, pieces([3]int{7, 5, 1}, [3]int{n, 6, 2}), n >= 1 && n != 7)
		checkPiecesOk(t, pieces([3]int{1, n, 0}), n >= 1 && n <= 60)
		checkPiecesOk(t, pieces([3]int{1, 60, 5}, [3]int{2, n, 5}), n >= 1 && n <= 60)
		checkPiecesOk(t, pieces([3]int{1, 5, n}), n >= 0 && n <= 5)
		checkPiecesOk(t, pieces([3]int{1, 5, 5}, [3]int{2, 60, n}), n >= 0 && n <= 5)
		checkPiecesOk(t, equal(max(n, 0), 60), n <= 40)
		checkPiecesOk(t, equal(max(n, 0), 1), n <= 40)
	}
}

// plainPiecesOk looks at each pair of pieces.
func plainPiecesOk(list []impl.Piece) bool {
	ok := len(list) <= 40
	for i, a := range list {
		ok = ok && a.Bag >= 1 && a.Weight >= 1 && a.Weight <= 60 && a.Class >= 0 && a.Class <= 5
		for j, b := range list {
			ok = ok && (a.Bag != b.Bag || i == j)
		}
	}
	return ok
}

func TestPiecesOkOfSmallLists(t *testing.T) {
	counts := map[bool]int{}
	for n := range 6 * 6 * 6 * 6 * 6 * 6 * 3 {
		digit := func() int { d := n % 6; n /= 6; return d }
		list := pieces([3]int{digit(), 59 + digit()%3, 4 + digit()%3}, [3]int{digit(), digit() % 3, digit()%3 - 1}, [3]int{5, 5, 5})
		list = list[:1+n]
		want := plainPiecesOk(list)
		counts[want]++
		checkPiecesOk(t, list, want)
	}
	if counts[true] < 10000 || counts[false] < 10000 {
		t.Errorf("few of the lists are valid, or few are not: %v", counts)
	}
}

func TestLimitsOk(t *testing.T) {
	for weight := -2; weight <= 2005; weight++ {
		for _, count := range []int{-1, 0, 1, 2, 39, 40, 41, 60} {
			want := weight >= 60 && weight <= 2000 && count >= 1 && count <= 40
			if got := impl.LimitsOk(limits(weight, count)); got != want {
				t.Errorf("LimitsOk(%d, %d) = %v", weight, count, got)
			}
		}
	}
	for count := -2; count <= 70; count++ {
		for _, weight := range []int{59, 60, 61, 1999, 2000, 2001} {
			want := weight >= 60 && weight <= 2000 && count >= 1 && count <= 40
			if got := impl.LimitsOk(limits(weight, count)); got != want {
				t.Errorf("LimitsOk(%d, %d) = %v", weight, count, got)
			}
		}
	}
}

func TestLimitsOkInvalid(t *testing.T) {
	for _, m := range invalidLimits() {
		if impl.LimitsOk(m) {
			t.Errorf("LimitsOk(%v) = true", m)
		}
	}
}

// boxEach returns a box of its own for each piece.
func boxEach(list []impl.Piece) []impl.Box {
	boxes := []impl.Box{}
	for _, piece := range list {
		boxes = append(boxes, boxOf(piece.Class, piece.Weight, piece.Bag))
	}
	return boxes
}

// checkNotPacked checks the fixed results for limits or a list that are not valid.
func checkNotPacked(t *testing.T, name string, m impl.Limits, list []impl.Piece) {
	t.Helper()
	if got := impl.FirstFit(m, list); len(got) != 0 {
		t.Errorf("FirstFit(%v, %s) = %v", m, name, got)
	}
	if got := impl.Repack(m, list); len(got) != 0 {
		t.Errorf("Repack(%v, %s) = %v", m, name, got)
	}
	if got := impl.FewestBoxes(m, list); got != -1 {
		t.Errorf("FewestBoxes(%v, %s) = %d, want -1", m, name, got)
	}
	if got := impl.BoxBound(m, list); got != -1 {
		t.Errorf("BoxBound(%v, %s) = %d, want -1", m, name, got)
	}
	for _, boxes := range [][]impl.Box{nil, {{}}, boxEach(list), boxEach(fourPieces()), boxEach(list[:len(list)/2])} {
		if impl.BoxesOk(m, list, boxes) {
			t.Errorf("BoxesOk(%v, %s, %d boxes) = true", m, name, len(boxes))
		}
	}
}

func TestInvalidListsHaveFixedResults(t *testing.T) {
	for name, list := range invalidPieces() {
		for _, m := range []impl.Limits{limits(60, 1), limits(60, 3), limits(2000, 40)} {
			checkNotPacked(t, name, m, list)
		}
		for _, m := range invalidLimits() {
			if len(list) <= 5 {
				checkNotPacked(t, name, m, list)
			}
		}
	}
}

func TestInvalidLimitsHaveFixedResults(t *testing.T) {
	for name, list := range validLists() {
		for _, m := range invalidLimits() {
			checkNotPacked(t, name, m, list)
		}
	}
}
