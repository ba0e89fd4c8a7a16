package tests

import (
	"math"
	"math/rand"
	"slices"
	"testing"

	"loop.example/g03319/impl"
)

// sides returns the sides that a text with an l for each box on the left side tells.
func sides(text string) []bool {
	left := []bool{}
	for _, side := range text {
		left = append(left, side == 'l')
	}
	return left
}

func checkSides(t *testing.T, weights []int, left string, want int) {
	t.Helper()
	if got := impl.SideDifference(weights, sides(left)); got != want {
		t.Errorf("SideDifference(%v, %s) = %d, want %d", weights, left, got, want)
	}
}

func checkLeastDifference(t *testing.T, weights []int, want int) {
	t.Helper()
	if got := impl.LeastDifference(weights); got != want {
		t.Errorf("LeastDifference(%v) = %d, want %d", weights, got, want)
	}
}

// checkLaid checks the least difference and the way to lay the boxes.
func checkLaid(t *testing.T, weights []int, least int, left string) {
	t.Helper()
	checkLeastDifference(t, weights, least)
	if got := impl.Lay(weights); !slices.Equal(got, sides(left)) {
		t.Errorf("Lay(%v) = %v, want %s", weights, got, left)
	}
}

func checkNotLaid(t *testing.T, weights []int) {
	t.Helper()
	checkLeastDifference(t, weights, -1)
	if got := impl.Lay(weights); len(got) != 0 {
		t.Errorf("Lay(%v) = %v, want nil", weights, got)
	}
}

func TestSideDifference(t *testing.T) {
	checkSides(t, nil, "", 0)
	checkSides(t, []int{}, "", 0)
	checkSides(t, []int{7}, "l", 7)
	checkSides(t, []int{7}, "r", -7)
	checkSides(t, []int{0}, "r", 0)
	checkSides(t, []int{12, 5, 8}, "lrr", -1)
	checkSides(t, []int{12, 5, 8}, "rll", 1)
	checkSides(t, []int{12, 5, 8}, "lll", 25)
	checkSides(t, []int{12, 5, 8}, "rrr", -25)
	checkSides(t, []int{12, 5, 8}, "llr", 9)
	checkSides(t, []int{12, 5, 8}, "rrl", -9)
	checkSides(t, []int{-12, 5, -8}, "lrl", -25)
	checkSides(t, []int{-12, 5, -8}, "rlr", 25)
	checkSides(t, []int{-3, -3}, "lr", 0)
	checkSides(t, numbers(1, 12), "lrlrlrlrlrlr", -6)
}

func TestSideDifferenceOfSlicesOfAnotherLength(t *testing.T) {
	checkSides(t, nil, "l", 0)
	checkSides(t, []int{7}, "", 0)
	checkSides(t, []int{7}, "ll", 0)
	checkSides(t, []int{7, 9}, "l", 0)
	checkSides(t, []int{7, 9}, "llr", 0)
	checkSides(t, numbers(1, 12), "lllllllllll", 0)
	checkSides(t, numbers(1, 12), "lllllllllllll", 0)
	for some := range 14 {
		for other := range 14 {
			want := some
			if some != other || some > 12 {
				want = 0
			}
			if got := impl.SideDifference(slices.Repeat([]int{1}, some), slices.Repeat([]bool{true}, other)); got != want {
				t.Errorf("SideDifference of %d weights and %d sides is %d, want %d", some, other, got, want)
			}
		}
	}
}

func TestSideDifferenceLimits(t *testing.T) {
	for _, n := range []int{-2000, -1999, -1, 0, 1, 1999, 2000} {
		checkSides(t, []int{n}, "l", n)
		checkSides(t, []int{5, n, 9}, "rrl", 4-n)
		checkSides(t, []int{5, 9, n}, "lll", 14+n)
		checkSides(t, slices.Repeat([]int{n}, 12), "llllllllllll", 12*n)
		checkSides(t, slices.Repeat([]int{n}, 12), "rrrrrrrrrrrr", -12*n)
	}
	for _, n := range []int{math.MinInt, math.MinInt + 1, -2002, -2001, 2001, 2002, math.MaxInt - 1, math.MaxInt} {
		checkSides(t, []int{n}, "l", 0)
		checkSides(t, []int{n}, "r", 0)
		checkSides(t, []int{n, 5, 9}, "lrl", 0)
		checkSides(t, []int{5, n, 9}, "lrl", 0)
		checkSides(t, []int{5, 9, n}, "lll", 0)
		checkSides(t, []int{5, 9, n}, "llr", 0)
	}
	checkSides(t, slices.Repeat([]int{5}, 12), "lllllllrrrrr", 10)
	checkSides(t, slices.Repeat([]int{5}, 13), "lllllllllllll", 0)
	checkSides(t, slices.Repeat([]int{5}, 13), "rrrrrrrrrrrrr", 0)
	many := slices.Repeat([]int{5}, 100000)
	if got := impl.SideDifference(many, slices.Repeat([]bool{true}, 100000)); got != 0 {
		t.Errorf("SideDifference of 100000 boxes is %d, want 0", got)
	}
}

func TestLay(t *testing.T) {
	checkLaid(t, nil, 0, "")
	checkLaid(t, []int{}, 0, "")
	checkLaid(t, []int{7}, 7, "l")
	checkLaid(t, []int{2000}, 2000, "l")
	checkLaid(t, []int{3, 9}, 6, "lr")
	checkLaid(t, []int{9, 3}, 6, "lr")
	checkLaid(t, []int{12, 5, 8}, 1, "lrr")
	checkLaid(t, []int{5, 8, 12}, 1, "llr")
	checkLaid(t, []int{5, 12, 8}, 1, "lrl")
	checkLaid(t, []int{1, 2, 4, 8, 16, 32}, 1, "lllllr")
	checkLaid(t, []int{32, 16, 8, 4, 2, 1}, 1, "lrrrrr")
	checkLaid(t, []int{100, 5, 5}, 90, "lrr")
}

func TestLayOfBoxesWithoutWeight(t *testing.T) {
	checkLaid(t, []int{0}, 0, "l")
	checkLaid(t, []int{0, 0, 0}, 0, "lll")
	checkLaid(t, slices.Repeat([]int{0}, 12), 0, "llllllllllll")
	checkLaid(t, []int{0, 7}, 7, "ll")
	checkLaid(t, []int{7, 0, 7}, 0, "llr")
	checkLaid(t, []int{7, 7, 0}, 0, "lrl")
	checkLaid(t, []int{0, 5, 0, 3, 0}, 2, "lllrl")
}

func TestLayOfSeveralWaysThatAreAsEven(t *testing.T) {
	checkLaid(t, []int{5, 5}, 0, "lr")
	checkLaid(t, []int{5, 5, 5}, 5, "llr")
	checkLaid(t, []int{5, 5, 5, 5}, 0, "llrr")
	checkLaid(t, []int{1, 2, 3}, 0, "llr")
	checkLaid(t, []int{3, 2, 1}, 0, "lrr")
	checkLaid(t, []int{4, 3, 2, 1}, 0, "lrrl")
	checkLaid(t, []int{1, 4, 2, 3}, 0, "llrr")
	// With the second box on the left, either side may be the heavier one; then the third one is on the left, too.
	checkLaid(t, []int{2, 2, 2, 1}, 1, "llrr")
	checkLaid(t, []int{2, 3, 2, 2}, 1, "llrr")
	checkLaid(t, []int{1, 1, 1, 4, 2}, 1, "lllrl")
	checkLaid(t, slices.Repeat([]int{2000}, 11), 2000, "llllllrrrrr")
	checkLaid(t, slices.Repeat([]int{2000}, 12), 0, "llllllrrrrrr")
	checkLaid(t, numbers(1, 12), 0, "lllllllrrrlr")
}

func TestLayLimits(t *testing.T) {
	checkLaid(t, []int{0, 0, 2000}, 2000, "lll")
	for _, n := range []int{1, 2, 1999, 2000} {
		checkLaid(t, []int{n}, n, "l")
		checkLaid(t, []int{2000, n}, 2000-n, "lr")
		checkLaid(t, []int{0, n, 2000}, 2000-n, "llr")
		checkLaid(t, []int{n, 2000, 0}, 2000-n, "lrl")
	}
	for _, n := range []int{math.MinInt, -2001, -2000, -1999, -2, -1, 2001, 2002, math.MaxInt - 1, math.MaxInt} {
		checkNotLaid(t, []int{n})
		checkNotLaid(t, []int{n, 5, 9})
		checkNotLaid(t, []int{5, n, 9})
		checkNotLaid(t, []int{5, 9, n})
		checkNotLaid(t, slices.Repeat([]int{n}, 13))
	}
	for count := range 12 {
		checkLeastDifference(t, slices.Repeat([]int{7}, count), 7*(count%2))
		checkLeastDifference(t, append(slices.Repeat([]int{0}, count), 2000), 2000)
		checkNotLaid(t, append(slices.Repeat([]int{0}, count), 2001))
		checkNotLaid(t, append(slices.Repeat([]int{0}, count), -1))
	}
	for _, count := range []int{13, 14, 62, 63, 64, 65, 100000} {
		checkNotLaid(t, slices.Repeat([]int{0}, count))
		checkNotLaid(t, slices.Repeat([]int{7}, count))
	}
}

// plainDifference adds up the two sides.
func plainDifference(weights []int, left []bool) int {
	sum := map[bool]int{}
	for i, side := range left {
		sum[side] += weights[i]
	}
	return sum[true] - sum[false]
}

// plainLay lays the boxes behind the ones with these sides in all ways, and returns the best one, as a text, and its amount.
// Of two ways that are as even the one whose text is less is the better one.
func plainLay(weights []int, difference int, way string) (string, int) {
	if len(weights) == 0 {
		return way, max(difference, -difference)
	}
	left, least := plainLay(weights[1:], difference+weights[0], way+"l")
	right, other := plainLay(weights[1:], difference-weights[0], way+"r")
	if other < least || other == least && right < left {
		return right, other
	}
	return left, least
}

// leastBySums looks at the weights that the boxes on one side may have together.
func leastBySums(weights []int) int {
	sums, all := map[int]bool{0: true}, 0
	for _, weight := range weights {
		next := map[int]bool{}
		for sum := range sums {
			next[sum], next[sum+weight] = true, true
		}
		sums, all = next, all+weight
	}
	least := all
	for sum := range sums {
		least = min(least, max(all-2*sum, 2*sum-all))
	}
	return least
}

// smallWeights returns all lists of up to five weights from 0 to 6.
func smallWeights() [][]int {
	all := [][]int{nil}
	for done := 0; len(all[done]) < 5; done++ {
		for weight := range 7 {
			all = append(all, append(slices.Clone(all[done]), weight))
		}
	}
	return all
}

// randomWeights returns lists of up to MaxExactBoxes weights from 0 on.
func randomWeights(count int) [][]int {
	r := rand.New(rand.NewSource(27))
	all := [][]int{}
	for range count {
		weights, limit := []int{}, []int{2, 5, 20, 200, 2001}[r.Intn(5)]
		for range r.Intn(impl.MaxExactBoxes + 1) {
			weights = append(weights, r.Intn(limit))
		}
		all = append(all, weights)
	}
	return all
}

func TestLayOfSmallAndRandomWeights(t *testing.T) {
	for _, weights := range append(smallWeights(), randomWeights(300)...) {
		way, least := plainLay(weights, 0, "")
		checkLaid(t, weights, least, way)
		checkLeastDifference(t, weights, leastBySums(weights))
	}
}

func TestSideDifferenceOfSmallAndRandomWeights(t *testing.T) {
	r := rand.New(rand.NewSource(28))
	for _, weights := range append(smallWeights(), randomWeights(3000)...) {
		left := []bool{}
		for i := range weights {
			weights[i] *= r.Intn(3) - 1
			left = append(left, r.Intn(2) == 0)
		}
		if got := impl.SideDifference(weights, left); got != plainDifference(weights, left) {
			t.Errorf("SideDifference(%v, %v) = %d, want %d", weights, left, got, plainDifference(weights, left))
		}
	}
}

func TestNoWayIsMoreEvenThanTheOneThatIsTold(t *testing.T) {
	uneven := 0
	for _, weights := range append(smallWeights(), randomWeights(200)...) {
		told := impl.Lay(weights)
		least := impl.LeastDifference(weights)
		if got := impl.SideDifference(weights, told); len(told) != len(weights) || max(got, -got) != least {
			t.Errorf("Lay(%v) = %v, with the difference %d; want %d", weights, told, got, least)
		}
		for set := range 1 << len(weights) {
			left := make([]bool, len(weights))
			for _, i := range indexesOf(set) {
				left[i] = true
			}
			got := impl.SideDifference(weights, left)
			if max(got, -got) < least {
				t.Errorf("LeastDifference(%v) = %d, but that of %v is %d", weights, least, left, got)
			}
			if max(got, -got) == least && goesBefore(left, told) {
				t.Errorf("Lay(%v) = %v, but %v is as even", weights, told, left)
			}
		}
		if least > 0 {
			uneven++
		}
	}
	if uneven < 5000 {
		t.Errorf("only %d of the lists cannot be laid evenly", uneven)
	}
}

// goesBefore reports whether the first box that lies on different sides is on the left in the first one of two ways.
func goesBefore(left, other []bool) bool {
	for i := range left {
		if left[i] != other[i] {
			return left[i]
		}
	}
	return false
}
