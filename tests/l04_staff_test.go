package tests

import (
	"math/rand"
	"slices"
	"testing"

	"loop.example/g03319/impl"
)

func checkLeastStaff(t *testing.T, list []impl.Image, wait, want int) {
	t.Helper()
	if got := impl.LeastStaff(list, wait); got != want {
		t.Errorf("LeastStaff(%v, %d) = %d, want %d", list, wait, got, want)
	}
}

func TestLeastStaff(t *testing.T) {
	list := images([2]int{0, 3}, [2]int{1, 5}, [2]int{1, 1})
	checkLeastStaff(t, list, 0, 3)
	checkLeastStaff(t, list, 1, 3)
	checkLeastStaff(t, list, 2, 2)
	checkLeastStaff(t, list, 6, 2)
	checkLeastStaff(t, list, 7, 1)
	checkLeastStaff(t, list, 5000, 1)
	checkLeastStaff(t, nil, 0, 1)
	checkLeastStaff(t, nil, 5000, 1)
	checkLeastStaff(t, images([2]int{100000, 5000}), 0, 1)
	checkLeastStaff(t, images([2]int{0, 10}, [2]int{9, 1}), 0, 2)
	checkLeastStaff(t, images([2]int{0, 10}, [2]int{10, 1}), 0, 1)
	checkLeastStaff(t, images([2]int{0, 10}, [2]int{9, 1}), 1, 1)
}

func TestLeastStaffForImagesThatArriveTogether(t *testing.T) {
	for count := 1; count <= 16; count++ {
		list := manyImages(count, 7, 3)
		checkLeastStaff(t, list, 0, count)
		checkLeastStaff(t, list, 2, count)
		// Each operator can look at two images within a wait of 3 and at three within a wait of 6.
		checkLeastStaff(t, list, 3, (count+1)/2)
		checkLeastStaff(t, list, 5, (count+1)/2)
		checkLeastStaff(t, list, 6, (count+2)/3)
		checkLeastStaff(t, list, 5000, 1)
	}
	checkLeastStaff(t, manyImages(16, 100000, 5000), 4999, 16)
	checkLeastStaff(t, manyImages(16, 100000, 5000), 5000, 8)
}

// checkPromiseOfStaff looks at each number of operators, with the plain computation too.
func checkPromiseOfStaff(t *testing.T, list []impl.Image, wait int) {
	t.Helper()
	least := impl.LeastStaff(list, wait)
	if least < 1 || least > max(1, len(list)) {
		t.Errorf("LeastStaff(%v, %d) = %d", list, wait, least)
	}
	for staff := 1; staff <= impl.MaxStaff; staff++ {
		dropped := slices.Contains(plainServe(rush{list, wait, staff}), -1)
		if dropped != (staff < least) || dropped != (impl.Dropped(list, wait, staff) > 0) {
			t.Errorf("LeastStaff(%v, %d) = %d, but with %d operators %d images are dropped", list, wait, least, staff, impl.Dropped(list, wait, staff))
		}
	}
}

func TestLeastStaffAndMoreDropNoImage(t *testing.T) {
	for _, list := range smallImages() {
		for wait := range 4 {
			checkPromiseOfStaff(t, list, wait)
		}
	}
	for _, q := range randomRushes(5000, impl.MaxImages) {
		checkPromiseOfStaff(t, q.list, q.wait)
	}
	r := rand.New(rand.NewSource(15))
	for range 30 {
		list := []impl.Image{}
		for range 1 + r.Intn(impl.MaxImages) {
			list = append(list, impl.Image{Arrive: r.Intn(impl.MaxTick/16 + 1), Need: 1 + r.Intn(impl.MaxWait)})
		}
		slices.SortFunc(list, func(a, b impl.Image) int { return a.Arrive - b.Arrive })
		checkPromiseOfStaff(t, list, r.Intn(impl.MaxWait+1))
	}
}

func checkMostServed(t *testing.T, list []impl.Image, wait, staff, want int) {
	t.Helper()
	if got := impl.MostServed(list, wait, staff); got != want {
		t.Errorf("MostServed(%v, %d, %d) = %d, want %d", list, wait, staff, got, want)
	}
}

func TestMostServed(t *testing.T) {
	list := images([2]int{0, 3}, [2]int{1, 5}, [2]int{1, 1})
	checkMostServed(t, list, 0, 1, 1)
	checkMostServed(t, list, 1, 1, 1)
	checkMostServed(t, list, 2, 1, 2)
	checkMostServed(t, list, 6, 1, 2)
	checkMostServed(t, list, 7, 1, 3)
	checkMostServed(t, list, 0, 2, 2)
	checkMostServed(t, list, 2, 2, 3)
	checkMostServed(t, list, 0, 3, 3)
	checkMostServed(t, list, 0, 16, 3)
	checkMostServed(t, nil, 0, 1, 0)
	checkMostServed(t, nil, 5000, 16, 0)
	checkMostServed(t, images([2]int{100000, 5000}), 0, 1, 1)
}

func TestLeavingOutAnEarlyImageLetsMoreBeServed(t *testing.T) {
	long := images([2]int{0, 100}, [2]int{1, 2}, [2]int{3, 2}, [2]int{5, 2})
	checkServe(t, long, 0, 1, 0, -1, -1, -1)
	checkMostServed(t, long, 0, 1, 3)
	checkServe(t, long, 0, 2, 0, 1, 3, 5)
	checkMostServed(t, long, 0, 2, 4)
	// The second image is the one to leave out, for it keeps the operator from the third and the fourth one.
	second := images([2]int{0, 1}, [2]int{1, 9}, [2]int{2, 4}, [2]int{2, 4})
	checkServe(t, second, 4, 1, 0, 1, -1, -1)
	checkMostServed(t, second, 4, 1, 3)
	// Two of the early images have to be left out for the three last ones.
	two := images([2]int{0, 9}, [2]int{0, 9}, [2]int{2, 1}, [2]int{2, 1}, [2]int{2, 5})
	checkServe(t, two, 1, 2, 0, 0, -1, -1, -1)
	checkMostServed(t, two, 1, 2, 3)
	checkMostServed(t, two, 0, 2, 2)
	checkMostServed(t, two, 1, 3, 4)
}

func TestMostServedImageLimit(t *testing.T) {
	for count := range 17 {
		for staff := 1; staff <= 16; staff++ {
			if count > 10 {
				checkMostServed(t, manyImages(count, 7, 3), 3, staff, -1)
			} else {
				checkMostServed(t, manyImages(count, 7, 3), 3, staff, min(count, 2*staff))
			}
		}
		want := []int{0, 1, 2, 3, 4, 5, 6, 7, 8, 9, 10, -1, -1, -1, -1, -1, -1}[count]
		checkMostServed(t, manyImages(count, 100000, 1), 5000, 1, want)
	}
}

// plainMost leaves the first image out, and serves it if an operator is free in time, and takes what is better.
func plainMost(list []impl.Image, wait int, free []int) int {
	if len(list) == 0 {
		return 0
	}
	most := plainMost(list[1:], wait, free)
	next := slices.Sorted(slices.Values(free))
	start := max(next[0], list[0].Arrive)
	if start-list[0].Arrive <= wait {
		next[0] = start + list[0].Need
		most = max(most, 1+plainMost(list[1:], wait, next))
	}
	return most
}

func TestMostServedOfSmallAndRandomRushes(t *testing.T) {
	rushes := randomRushes(1500, impl.MaxExactImages)
	for _, list := range smallImages() {
		for wait := range 4 {
			for staff := 1; staff <= 3; staff++ {
				rushes = append(rushes, rush{list, wait, staff})
			}
		}
	}
	better := 0
	for _, q := range rushes {
		want := plainMost(q.list, q.wait, make([]int, q.staff))
		checkMostServed(t, q.list, q.wait, q.staff, want)
		served := len(q.list) - impl.Dropped(q.list, q.wait, q.staff)
		if want < served || (want == len(q.list)) != (served == len(q.list)) {
			t.Errorf("MostServed(%v, %d, %d) = %d, but %d are served", q.list, q.wait, q.staff, want, served)
		}
		if want > served {
			better++
		}
	}
	if better < 500 {
		t.Errorf("leaving images out let more be served in only %d of %d rushes", better, len(rushes))
	}
}
