package tests

import (
	"math"
	"slices"
	"testing"

	"loop.example/g03319/impl"
)

// ways are all ways to take sights for the bags of different elements that they fit: most is the greatest number of
// sights that are taken in one of them, and choices has, for each sight, all for which it is taken in those with so many.
type ways struct {
	most    int
	choices [][]int
}

func plainWays(s scene) ways {
	w := ways{most: -1}
	w.try(s, nil, 0)
	for _, bags := range w.choices {
		slices.Sort(bags)
	}
	return w
}

// try tries everything for the sights after those of the bags, of which so many are taken for elements.
func (w *ways) try(s scene, bags []int, count int) {
	i := len(bags)
	if i == len(s.sights) {
		w.note(bags, count)
		return
	}
	w.try(s, append(bags, s.sights[i].Bag), count)
	for _, e := range s.list {
		if fitsPlainly(s, i, e) && !slices.Contains(bags, e.Bag) {
			w.try(s, append(bags, e.Bag), count+1)
		}
	}
}

func (w *ways) note(bags []int, count int) {
	if count > w.most {
		w.most, w.choices = count, make([][]int, len(bags))
	}
	for i, bag := range bags {
		if count == w.most && !slices.Contains(w.choices[i], bag) {
			w.choices[i] = append(w.choices[i], bag)
		}
	}
}

func (w ways) sure() []int {
	list := []int{}
	for _, bags := range w.choices {
		if len(bags) > 1 {
			list = append(list, -1)
		} else {
			list = append(list, bags[0])
		}
	}
	return list
}

func checkChoices(t *testing.T, list []impl.Expect, sights []impl.Sight, i int, want ...int) {
	t.Helper()
	if got := impl.Choices(list, sights, i); !slices.Equal(got, want) {
		t.Errorf("Choices(%v, %v, %d) = %v, want %v", list, sights, i, got, want)
	}
}

func checkSure(t *testing.T, list []impl.Expect, sights []impl.Sight, want ...int) {
	t.Helper()
	if got := impl.Sure(list, sights); !slices.Equal(got, want) {
		t.Errorf("Sure(%v, %v) = %v, want %v", list, sights, got, want)
	}
}

func checkMost(t *testing.T, list []impl.Expect, sights []impl.Sight, want int) {
	t.Helper()
	if got := impl.MostAssigned(list, sights); got != want {
		t.Errorf("MostAssigned(%v, %v) = %d, want %d", list, sights, got, want)
	}
}

func TestMostAssigned(t *testing.T) {
	list := expects([3]int{1, 0, 10}, [3]int{2, 3, 5})
	checkMost(t, list, unread(4, 8), 2)
	checkMost(t, list, unread(4, 4, 4), 2)
	checkMost(t, list, unread(6, 7), 1)
	checkMost(t, list, unread(11), 0)
	checkMost(t, list, nil, 0)
	checkMost(t, nil, nil, 0)
	checkMost(t, nil, unread(4), 0)
	checkMost(t, list, seen([2]int{4, 9}, [2]int{4, 0}), 1)
	checkMost(t, list, seen([2]int{4, 1}, [2]int{4, 0}), 1)
	checkMost(t, list, seen([2]int{4, 0}, [2]int{4, 0}, [2]int{90, 2}), 1)
	checkMost(t, list, seen([2]int{4, 2}, [2]int{4, 1}), 0)
	checkMost(t, list, seen([2]int{4, 0}, [2]int{4, 2}, [2]int{4, 1}), 0)
	checkMost(t, manyExpects(6), unread(0, 0, 0, 0, 0, 100000), 6)
	checkMost(t, manyExpects(3), unread(0, 0, 0, 0, 0, 100000), 3)
	checkMost(t, manyExpects(6), unread(0, 0, 100000), 3)
}

func TestSightsGiveUpElementsForOthers(t *testing.T) {
	// Each sight but the last fits two elements, and must give one of them up for the sight after it.
	chain := expects([3]int{6, 0, 1}, [3]int{5, 1, 2}, [3]int{4, 2, 3}, [3]int{3, 3, 4}, [3]int{2, 4, 5}, [3]int{1, 5, 6})
	checkMost(t, chain, unread(1, 2, 3, 4, 5, 6), 6)
	checkSure(t, chain, unread(1, 2, 3, 4, 5, 6), 6, 5, 4, 3, 2, 1)
	checkMost(t, chain, unread(0, 1, 2, 3, 4, 5), 6)
	checkSure(t, chain, unread(0, 1, 2, 3, 4, 5), 6, 5, 4, 3, 2, 1)
	checkMost(t, chain, unread(1, 2, 3, 4, 5), 5)
	for i, want := range [][]int{{5, 6}, {4, 5}, {3, 4}, {2, 3}, {1, 2}} {
		checkChoices(t, chain, unread(1, 2, 3, 4, 5), i, want...)
	}
	// The first sight fits both elements, the second one only that which the first one would be taken for alone.
	checkMost(t, expects([3]int{1, 0, 9}, [3]int{2, 0, 4}), unread(4, 5), 2)
	checkSure(t, expects([3]int{1, 0, 9}, [3]int{2, 0, 4}), unread(4, 5), 2, 1)
	// Of two sights that fit one element either is taken; of three, that fit two, any two.
	for i := range 2 {
		checkChoices(t, expects([3]int{7, 0, 9}), unread(4, 5), i, 0, 7)
	}
	for i := range 3 {
		checkChoices(t, expects([3]int{7, 0, 9}, [3]int{3, 4, 5}), unread(4, 5, 5), i, 0, 3, 7)
	}
	// The third sight alone fits the second element, so it leaves the first one to the others.
	late := expects([3]int{7, 0, 9}, [3]int{3, 6, 9})
	checkChoices(t, late, unread(4, 5, 6), 0, 0, 7)
	checkChoices(t, late, unread(4, 5, 6), 1, 0, 7)
	checkChoices(t, late, unread(4, 5, 6), 2, 3)
	checkSure(t, late, unread(4, 5, 6), -1, -1, 3)
}

func TestChoices(t *testing.T) {
	list := expects([3]int{9, 0, 10}, [3]int{2, 3, 5}, [3]int{4, 3, 4})
	checkChoices(t, list, unread(4), 0, 2, 4, 9)
	checkChoices(t, list, unread(5), 0, 2, 9)
	checkChoices(t, list, unread(8), 0, 9)
	checkChoices(t, list, unread(11), 0, 0)
	checkChoices(t, list, unread(11, 12), 1, 0)
	checkChoices(t, nil, unread(11), 0, 0)
	checkChoices(t, list, unread(4, 8), 0, 2, 4)
	checkChoices(t, list, unread(4, 8), 1, 9)
	checkChoices(t, list, unread(8, 9), 0, 0, 9)
	checkChoices(t, list, unread(4, 4, 4, 4), 3, 0, 2, 4, 9)
	checkChoices(t, list, unread(4, 4, 4, 11), 3, 0)
	checkChoices(t, manyExpects(6), unread(0, 0, 0, 0, 0, 0), 5, 1, 2, 3, 4, 5, 6)
	checkChoices(t, manyExpects(5), unread(0, 0, 0, 0, 0, 0), 0, 0, 1, 2, 3, 4, 5)
	checkChoices(t, expects([3]int{math.MaxInt, 0, 0}), unread(0), 0, math.MaxInt)
}

func TestChoicesOfNamedBags(t *testing.T) {
	list := expects([3]int{9, 0, 10}, [3]int{2, 3, 5}, [3]int{4, 3, 4})
	sights := seen([2]int{4, 0}, [2]int{4, 9}, [2]int{4, 77})
	checkChoices(t, list, sights, 0, 2, 4)
	checkChoices(t, list, sights, 1, 9)
	checkChoices(t, list, sights, 2, 77)
	checkSure(t, list, sights, -1, 9, 77)
	checkChoices(t, list, seen([2]int{4, 9}, [2]int{4, 2}, [2]int{4, 0}), 2, 4)
	checkChoices(t, list, seen([2]int{5, 9}, [2]int{5, 2}, [2]int{5, 0}), 2, 0)
	checkChoices(t, nil, seen([2]int{5, math.MaxInt}), 0, math.MaxInt)
}

func TestChoicesOfNoSight(t *testing.T) {
	list := expects([3]int{9, 0, 10}, [3]int{2, 3, 5})
	for _, sights := range [][]impl.Sight{nil, unread(4), unread(4, 4), seen([2]int{4, 2}, [2]int{4, 7}, [2]int{4, 0})} {
		for _, i := range []int{math.MinInt, -100, -2, -1, 0, 1, 2, 3, 4, 5, 6, 7, 100, math.MaxInt} {
			if got := impl.Choices(list, sights, i); (len(got) != 0) != (i >= 0 && i < len(sights)) {
				t.Errorf("Choices(%v, %v, %d) = %v", list, sights, i, got)
			}
		}
	}
}

func TestSure(t *testing.T) {
	list := expects([3]int{1, 0, 10}, [3]int{2, 3, 5})
	checkSure(t, list, unread(4, 8), 2, 1)
	checkSure(t, list, unread(4), -1)
	checkSure(t, list, unread(2, 4), 1, 2)
	checkSure(t, list, unread(6, 7, 90), -1, -1, 0)
	checkSure(t, list, seen([2]int{4, 0}, [2]int{4, 1}), 2, 1)
	checkSure(t, list, nil)
	checkSure(t, nil, nil)
	checkSure(t, nil, seen([2]int{4, 0}, [2]int{4, 1}, [2]int{4, 0}), 0, 1, 0)
	checkSure(t, manyExpects(6), unread(0, 0, 0, 0, 0, 0), -1, -1, -1, -1, -1, -1)
}

func TestSmallAndRandomScenesAgainstAllWays(t *testing.T) {
	for _, s := range append(smallScenes(), randomScenes(3000)...) {
		w := plainWays(s)
		checkMost(t, s.list, s.sights, w.most)
		for i := range s.sights {
			checkChoices(t, s.list, s.sights, i, w.choices[i]...)
		}
		checkSure(t, s.list, s.sights, w.sure()...)
	}
}

func TestTheRuleTakesAsManySightsAsPossible(t *testing.T) {
	for _, s := range append(smallScenes(), randomScenes(3000)...) {
		count := 0
		for i, bag := range impl.Assign(s.list, s.sights) {
			if s.sights[i].Bag == 0 && bag != 0 {
				count++
			}
			if choices := impl.Choices(s.list, s.sights, i); !slices.Contains(choices, bag) {
				t.Errorf("sight %d of %v is taken for %d, but its choices are %v", i, s, bag, choices)
			}
		}
		if most := impl.MostAssigned(s.list, s.sights); count != most {
			t.Errorf("%d of the sights of %v are taken, but %d could be", count, s, most)
		}
	}
}

// spoil overwrites a result and the memory behind it.
func spoil(list []int) {
	for i := range list[:cap(list)] {
		list[:cap(list)][i] = -7
	}
}

func spoilAllOnScene(list []impl.Expect, sights []impl.Sight) {
	impl.ExpectOk(list)
	impl.SightsOk(sights)
	impl.MostAssigned(list, sights)
	spoil(impl.Assign(list, sights))
	spoil(impl.Missing(list, sights, 2))
	spoil(impl.Missing(list, sights, 100001))
	spoil(impl.Sure(list, sights))
	for i := -1; i <= len(sights); i++ {
		spoil(impl.Choices(list, sights, i))
	}
}

func TestSceneArgumentsAreNotChanged(t *testing.T) {
	scenes := randomScenes(500)
	for _, list := range invalidLists() {
		scenes = append(scenes, scene{list, unread(0, 5)})
	}
	for _, sights := range invalidSights() {
		scenes = append(scenes, scene{manyExpects(3), sights})
	}
	for _, s := range scenes {
		list := slices.Concat(s.list, expects([3]int{901, 0, 9}, [3]int{902, 0, 8}, [3]int{903, 0, 7}))
		sights := slices.Concat(s.sights, seen([2]int{100000, 901}, [2]int{100000, 0}, [2]int{100000, 902}))
		keptList, keptSights := slices.Clone(list), slices.Clone(sights)
		spoilAllOnScene(list[:len(s.list)], sights[:len(s.sights)])
		if !slices.Equal(list, keptList) || !slices.Equal(sights, keptSights) {
			t.Errorf("the arguments are %v and %v after the calls, want %v and %v", list, sights, keptList, keptSights)
		}
	}
}

func TestSceneResultsAreNewEachTime(t *testing.T) {
	for _, s := range randomScenes(300) {
		spoilAllOnScene(s.list, s.sights)
		w := plainWays(s)
		checkAssign(t, s.list, s.sights, plainAssign(s)...)
		checkMost(t, s.list, s.sights, w.most)
		checkSure(t, s.list, s.sights, w.sure()...)
		for i := range s.sights {
			checkChoices(t, s.list, s.sights, i, w.choices[i]...)
		}
	}
}
