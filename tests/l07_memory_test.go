package tests

import (
	"slices"
	"testing"

	"loop.example/g03319/impl"
)

// spoilBoxes overwrites a result and the memory behind it.
func spoilBoxes(boxes []impl.Box) {
	for i := range boxes[:cap(boxes)] {
		spoil(boxes[:cap(boxes)][i].Bags)
		boxes[:cap(boxes)][i] = boxOf(-7, -7)
	}
}

// piecesBehind returns the list with pieces in the memory behind it.
func piecesBehind(list []impl.Piece) []impl.Piece {
	return append(slices.Clone(list), pieces([3]int{901, 9, 0}, [3]int{902, 8, 1}, [3]int{903, 7, 5})...)[:len(list)]
}

// boxesBehind returns the boxes with memory behind the bags of each, and boxes in the memory behind the last one.
func boxesBehind(boxes []impl.Box) []impl.Box {
	list := []impl.Box{}
	for _, box := range slices.Concat(boxes, []impl.Box{boxOf(0, 9, 901), boxOf(1, 8, 902)}) {
		list = append(list, boxOf(box.Class, box.Weight, roomBehind(box.Bags)...))
	}
	return list[:len(boxes)]
}

// wholeBoxes returns the boxes with all that is in their memory and behind it.
func wholeBoxes(boxes []impl.Box) []impl.Box {
	list := []impl.Box{}
	for _, box := range boxes[:cap(boxes)] {
		list = append(list, boxOf(box.Class, box.Weight, box.Bags[:cap(box.Bags)]...))
	}
	return list
}

// cargosToKeep returns cargos of all kinds, some of them not valid.
func cargosToKeep() []cargo {
	all := append(randomCargos(500, impl.MaxPieces), tightCargos(100)...)
	for _, m := range []impl.Limits{limits(60, 3), limits(2000, 40), limits(59, 3), limits(60, 0)} {
		all = append(all, cargo{m, fourPieces()}, cargo{m, fullList()}, cargo{m, equal(8, 20)}, cargo{m, nil})
	}
	for _, list := range invalidPieces() {
		if len(list) < 100 {
			all = append(all, cargo{limits(60, 3), list})
		}
	}
	return all
}

// packings calls each function on the cargo and returns the boxes that result.
func packings(c cargo) [][]impl.Box {
	impl.PiecesOk(c.list)
	impl.LimitsOk(c.m)
	impl.FewestBoxes(c.m, c.list)
	impl.BoxBound(c.m, c.list)
	results := [][]impl.Box{impl.FirstFit(c.m, c.list), impl.Repack(c.m, c.list)}
	for _, boxes := range results {
		impl.BoxesOk(c.m, c.list, boxes)
	}
	return results
}

func TestPiecesAreNotChanged(t *testing.T) {
	for _, c := range cargosToKeep() {
		arg := piecesBehind(c.list)
		kept := slices.Clone(arg[:cap(arg)])
		for _, boxes := range packings(cargo{c.m, arg}) {
			spoilBoxes(boxes)
		}
		if !slices.Equal(arg[:cap(arg)], kept) || !slices.Equal(arg, c.list) {
			t.Errorf("the pieces are %v after the calls, want %v", arg[:cap(arg)], kept)
		}
	}
}

func TestPackedBoxesAreNewEachTime(t *testing.T) {
	for _, c := range cargosToKeep() {
		first := packings(c)
		kept := [][]impl.Box{copyBoxes(first[0]), copyBoxes(first[1])}
		again := packings(cargo{c.m, piecesBehind(c.list)})
		spoilBoxes(first[0])
		spoilBoxes(first[1])
		for _, got := range [][][]impl.Box{again, packings(c)} {
			if !slices.EqualFunc(got, kept, sameBoxes) {
				t.Errorf("%v are packed into %v, want %v", c, got, kept)
			}
		}
	}
}

// TestPackedBoxesShareNoMemory overwrites the bags of one box of the result after the other; no other one may change.
func TestPackedBoxesShareNoMemory(t *testing.T) {
	for _, c := range cargosToKeep() {
		for _, boxes := range packings(c) {
			for i, box := range boxes {
				kept := copyBoxes(boxes)
				spoil(box.Bags)
				for j := range boxes {
					if j != i && !sameBox(boxes[j], kept[j]) {
						t.Errorf("the boxes %d and %d of %v share memory", i, j, kept)
					}
				}
				copy(box.Bags, kept[i].Bags)
			}
		}
	}
}

func TestBoxesAreNotChanged(t *testing.T) {
	check := func(m impl.Limits, list []impl.Piece, boxes []impl.Box) {
		t.Helper()
		arg, args := piecesBehind(list), boxesBehind(boxes)
		kept, keptBoxes := slices.Clone(arg[:cap(arg)]), copyBoxes(wholeBoxes(args))
		got := impl.BoxesOk(m, arg, args)
		if !slices.Equal(arg[:cap(arg)], kept) || !sameBoxes(wholeBoxes(args), keptBoxes) {
			t.Errorf("the pieces are %v and the boxes %v after BoxesOk, want %v and %v", arg[:cap(arg)], wholeBoxes(args), kept, keptBoxes)
		}
		if want := plainBoxesOk(m, list, boxes); got != want {
			t.Errorf("BoxesOk(%v, %v, %v) = %v with memory behind them", m, list, boxes, got)
		}
	}
	for _, boxes := range wrongBoxes() {
		check(limits(60, 3), fourPieces(), boxes)
	}
	for _, c := range cargosToKeep() {
		check(c.m, c.list, boxEach(c.list))
		for _, boxes := range packings(c) {
			check(c.m, c.list, boxes)
		}
	}
}

func TestBoxesWithBagsInOneArray(t *testing.T) {
	for _, c := range cargosToKeep() {
		for _, boxes := range packings(c) {
			all := []int{}
			for _, box := range boxes {
				all = append(all, box.Bags...)
			}
			kept, rest, joined := slices.Clone(all), all, []impl.Box{}
			for _, box := range boxes {
				joined = append(joined, boxOf(box.Class, box.Weight, rest[:len(box.Bags)]...))
				rest = rest[len(box.Bags):]
			}
			if got := impl.BoxesOk(c.m, c.list, joined); got != plainBoxesOk(c.m, c.list, boxes) || !slices.Equal(all, kept) {
				t.Errorf("BoxesOk(%v, %v, %v) = %v with bags in one array, which is %v afterwards", c.m, c.list, boxes, got, all)
			}
		}
	}
}

func weightsToKeep() [][]int {
	return append(randomWeights(100), nil, []int{2001}, []int{5, -1, 7}, []int{-2001, 3}, slices.Repeat([]int{5}, 13), []int{9, 3, 7, 5})
}

func TestWeightsAndSidesAreNotChanged(t *testing.T) {
	for _, weights := range weightsToKeep() {
		arg := roomBehind(weights)
		kept := slices.Clone(arg[:cap(arg)])
		for count := max(0, len(weights)-1); count <= len(weights)+1; count++ {
			left := slices.Repeat([]bool{true, false, false}, 5)[:count]
			keptSides := slices.Clone(left[:cap(left)])
			if got := impl.SideDifference(arg, left); got != impl.SideDifference(weights, slices.Clone(left)) {
				t.Errorf("SideDifference(%v, %v) = %d with memory behind them", weights, left, got)
			}
			if !slices.Equal(left[:cap(left)], keptSides) {
				t.Errorf("the sides are %v after SideDifference, want %v", left[:cap(left)], keptSides)
			}
		}
		impl.LeastDifference(arg)
		laid := impl.Lay(arg)
		clear(laid[:cap(laid)])
		if !slices.Equal(arg[:cap(arg)], kept) {
			t.Errorf("the weights are %v after the calls, want %v", arg[:cap(arg)], kept)
		}
	}
}

func TestSidesAreNewEachTime(t *testing.T) {
	for _, weights := range weightsToKeep() {
		first := impl.Lay(weights)
		kept := slices.Clone(first)
		other := impl.Lay(roomBehind(weights))
		for i := range first[:cap(first)] {
			first[:cap(first)][i] = !first[:cap(first)][i]
		}
		if again := impl.Lay(weights); !slices.Equal(again, kept) || !slices.Equal(other, kept) {
			t.Errorf("Lay(%v) = %v, and %v with memory behind the weights; want %v", weights, again, other, kept)
		}
	}
}
