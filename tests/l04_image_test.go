package tests

import (
	"math"
	"math/rand"
	"slices"
	"testing"

	"loop.example/g03319/impl"
)

// images returns a list of images that are given as arrival and need.
func images(pairs ...[2]int) []impl.Image {
	list := []impl.Image{}
	for _, v := range pairs {
		list = append(list, impl.Image{Arrive: v[0], Need: v[1]})
	}
	return list
}

// manyImages returns a list of so many images that all arrive at one time.
func manyImages(count, arrive, need int) []impl.Image {
	return slices.Repeat(images([2]int{arrive, need}), count)
}

// smallImages returns all valid lists of up to four images, with the arrivals 0 to 2 and needs of up to three.
func smallImages() [][]impl.Image {
	lists := [][]impl.Image{{}}
	for at := 0; len(lists[at]) < 4; at++ {
		for n := range 9 {
			next := impl.Image{Arrive: n / 3, Need: 1 + n%3}
			if last := len(lists[at]) - 1; last < 0 || lists[at][last].Arrive <= next.Arrive {
				lists = append(lists, append(slices.Clone(lists[at]), next))
			}
		}
	}
	return lists
}

// rush is a list of images with a wait and a number of operators.
type rush struct {
	list  []impl.Image
	wait  int
	staff int
}

// randomRushes returns valid ones with up to so many images; most times are small, for then more images compete.
func randomRushes(count, most int) []rush {
	r := rand.New(rand.NewSource(14))
	rushes := []rush{}
	for range count {
		span, needs := 1+r.Intn(20), 1+r.Intn(12)
		late := r.Intn(2) * (impl.MaxTick - span)
		q := rush{wait: r.Intn(1 + r.Intn(12)), staff: 1 + r.Intn(1+r.Intn(6))}
		for range r.Intn(most + 1) {
			q.list = append(q.list, impl.Image{Arrive: late + r.Intn(span+1), Need: 1 + r.Intn(needs)})
		}
		slices.SortStableFunc(q.list, func(a, b impl.Image) int { return a.Arrive - b.Arrive })
		rushes = append(rushes, q)
	}
	return rushes
}

// invalidImages are lists each of which is invalid in a way that ImagesOk names.
func invalidImages() map[string][]impl.Image {
	return map[string][]impl.Image{
		"17 images":               manyImages(17, 0, 1),
		"17 images, apart":        append(manyImages(16, 5, 1), impl.Image{Arrive: 90, Need: 1}),
		"40 images":               manyImages(40, 3, 2),
		"Arrive -1":               images([2]int{-1, 1}),
		"Arrive -1, more behind":  images([2]int{-1, 1}, [2]int{4, 1}),
		"Arrive -1 behind":        images([2]int{0, 1}, [2]int{-1, 1}),
		"least Arrive":            images([2]int{math.MinInt, 1}),
		"Arrive 100001":           images([2]int{100001, 1}),
		"Arrive 100001 behind":    images([2]int{0, 1}, [2]int{100001, 1}),
		"greatest Arrive":         images([2]int{0, 1}, [2]int{math.MaxInt, 1}),
		"Arrive before the other": images([2]int{5, 1}, [2]int{4, 1}),
		"Arrive back to 0":        images([2]int{5, 1}, [2]int{0, 1}),
		"last before the other":   images([2]int{0, 1}, [2]int{5, 1}, [2]int{4, 1}),
		"second of three too low": images([2]int{5, 1}, [2]int{4, 1}, [2]int{5, 1}),
		"Need 0":                  images([2]int{0, 0}),
		"Need 0 behind":           images([2]int{0, 1}, [2]int{0, 0}),
		"Need 0 ahead":            images([2]int{0, 0}, [2]int{0, 1}),
		"Need -1":                 images([2]int{0, 1}, [2]int{4, -1}),
		"least Need":              images([2]int{0, math.MinInt}, [2]int{4, 1}),
		"Need 5001":               images([2]int{0, 5001}),
		"Need 5001 behind":        images([2]int{0, 1}, [2]int{3, 5001}),
		"greatest Need":           images([2]int{0, math.MaxInt}, [2]int{3, 1}),
		"zero image":              {{}},
	}
}

func TestImagesOk(t *testing.T) {
	lists := append(smallImages(), nil, manyImages(16, 100000, 5000), manyImages(1, 0, 1))
	for _, q := range randomRushes(500, impl.MaxImages) {
		lists = append(lists, q.list)
	}
	for _, list := range lists {
		if !impl.ImagesOk(list) {
			t.Errorf("ImagesOk(%v) = false", list)
		}
	}
	for name, list := range invalidImages() {
		if impl.ImagesOk(list) {
			t.Errorf("%s: ImagesOk(%v) = true", name, list)
		}
	}
}

func TestImagesOkLimits(t *testing.T) {
	for count := range 40 {
		if got := impl.ImagesOk(manyImages(count, 7, 7)); got != (count <= 16) {
			t.Errorf("ImagesOk with %d images = %v", count, got)
		}
	}
	for _, n := range []int{math.MinInt, -1, 0, 1, 2, 4999, 5000, 5001, 99999, 100000, 100001, math.MaxInt} {
		for _, list := range [][]impl.Image{images([2]int{n, 1}), images([2]int{0, 5}, [2]int{n, 5})} {
			if got := impl.ImagesOk(list); got != (0 <= n && n <= 100000) {
				t.Errorf("ImagesOk(%v) = %v", list, got)
			}
		}
		for _, list := range [][]impl.Image{images([2]int{4, n}), images([2]int{4, 5}, [2]int{4, n}), images([2]int{4, n}, [2]int{9, 5})} {
			if got := impl.ImagesOk(list); got != (1 <= n && n <= 5000) {
				t.Errorf("ImagesOk(%v) = %v", list, got)
			}
		}
	}
	for n := range 64 {
		list := images([2]int{n / 16, 1}, [2]int{n / 4 % 4, 1}, [2]int{n % 4, 1})
		if got := impl.ImagesOk(list); got != (n/16 <= n/4%4 && n/4%4 <= n%4) {
			t.Errorf("ImagesOk(%v) = %v", list, got)
		}
	}
}

func checkServe(t *testing.T, list []impl.Image, wait, staff int, want ...int) {
	t.Helper()
	if got := impl.Serve(list, wait, staff); !slices.Equal(got, want) {
		t.Errorf("Serve(%v, %d, %d) = %v, want %v", list, wait, staff, got, want)
	}
	dropped := 0
	for _, start := range want {
		if start < 0 {
			dropped++
		}
	}
	if got := impl.Dropped(list, wait, staff); got != dropped {
		t.Errorf("Dropped(%v, %d, %d) = %d, want %d", list, wait, staff, got, dropped)
	}
}

func TestServe(t *testing.T) {
	list := images([2]int{0, 3}, [2]int{1, 5}, [2]int{1, 1})
	checkServe(t, list, 0, 1, 0, -1, -1)
	checkServe(t, list, 1, 1, 0, -1, -1)
	checkServe(t, list, 2, 1, 0, 3, -1)
	checkServe(t, list, 6, 1, 0, 3, -1)
	checkServe(t, list, 7, 1, 0, 3, 8)
	checkServe(t, list, 0, 2, 0, 1, -1)
	checkServe(t, list, 1, 2, 0, 1, -1)
	checkServe(t, list, 2, 2, 0, 1, 3)
	checkServe(t, list, 0, 3, 0, 1, 1)
	checkServe(t, list, 0, 16, 0, 1, 1)
	checkServe(t, list, 5000, 16, 0, 1, 1)
	checkServe(t, nil, 0, 1)
	checkServe(t, nil, 5000, 16)
	checkServe(t, images([2]int{9, 1}), 0, 1, 9)
	checkServe(t, images([2]int{9, 1}), 5000, 1, 9)
	checkServe(t, images([2]int{100000, 5000}, [2]int{100000, 5000}), 5000, 1, 100000, 105000)
	checkServe(t, images([2]int{100000, 5000}, [2]int{100000, 5000}), 4999, 1, 100000, -1)
}

func TestServeJustWithinTheWait(t *testing.T) {
	list := images([2]int{0, 10}, [2]int{4, 2})
	checkServe(t, list, 5, 1, 0, -1)
	checkServe(t, list, 6, 1, 0, 10)
	checkServe(t, list, 7, 1, 0, 10)
	checkServe(t, images([2]int{0, 10}, [2]int{9, 2}), 0, 1, 0, -1)
	checkServe(t, images([2]int{0, 10}, [2]int{10, 2}), 0, 1, 0, 10)
	checkServe(t, images([2]int{0, 10}, [2]int{11, 2}), 0, 1, 0, 11)
	checkServe(t, images([2]int{0, 5000}, [2]int{0, 1}), 5000, 1, 0, 5000)
	checkServe(t, images([2]int{0, 5000}, [2]int{0, 1}), 4999, 1, 0, -1)
	checkServe(t, images([2]int{0, 5000}, [2]int{0, 1}, [2]int{0, 1}), 5000, 1, 0, 5000, -1)
}

func TestDroppedImagesTakeNoOperator(t *testing.T) {
	checkServe(t, images([2]int{0, 5}, [2]int{1, 5000}, [2]int{5, 1}), 0, 1, 0, -1, 5)
	checkServe(t, images([2]int{0, 5}, [2]int{1, 5000}, [2]int{2, 5000}, [2]int{4, 2}, [2]int{5, 1}), 1, 1, 0, -1, -1, 5, -1)
	checkServe(t, images([2]int{0, 5}, [2]int{0, 5}, [2]int{1, 5000}, [2]int{5, 1}, [2]int{5, 1}), 0, 2, 0, 0, -1, 5, 5)
}

func TestServeImagesThatArriveTogether(t *testing.T) {
	list := manyImages(16, 7, 3)
	checkServe(t, list, 5000, 16, slices.Repeat([]int{7}, 16)...)
	checkServe(t, list, 0, 15, append(slices.Repeat([]int{7}, 15), -1)...)
	checkServe(t, list, 3, 15, append(slices.Repeat([]int{7}, 15), 10)...)
	checkServe(t, list, 0, 1, append([]int{7}, slices.Repeat([]int{-1}, 15)...)...)
	checkServe(t, manyImages(5, 7, 3), 6, 1, 7, 10, 13, -1, -1)
	checkServe(t, manyImages(5, 7, 3), 3, 2, 7, 7, 10, 10, -1)
	checkServe(t, manyImages(5, 0, 1), 5000, 1, 0, 1, 2, 3, 4)
	// The operators are free again at 5, 2 and 3: the last images are taken at 2, at 3, and again at 3.
	checkServe(t, images([2]int{0, 5}, [2]int{0, 2}, [2]int{0, 3}, [2]int{0, 1}, [2]int{0, 1}, [2]int{0, 9}), 3, 3, 0, 0, 0, 2, 3, 3)
}

// checkNotServed calls the functions with a list, a wait or a number of operators that is not valid.
func checkNotServed(t *testing.T, name string, list []impl.Image, wait, staff int) {
	t.Helper()
	if got := impl.Serve(list, wait, staff); len(got) != 0 {
		t.Errorf("%s: Serve(%v, %d, %d) = %v", name, list, wait, staff, got)
	}
	if got := impl.Dropped(list, wait, staff); got != -1 {
		t.Errorf("%s: Dropped(%v, %d, %d) = %d", name, list, wait, staff, got)
	}
	if got := impl.MostServed(list, wait, staff); got != -1 {
		t.Errorf("%s: MostServed(%v, %d, %d) = %d", name, list, wait, staff, got)
	}
}

func checkNoLeastStaff(t *testing.T, name string, list []impl.Image, wait int) {
	t.Helper()
	if got := impl.LeastStaff(list, wait); got != -1 {
		t.Errorf("%s: LeastStaff(%v, %d) = %d", name, list, wait, got)
	}
}

func badWaits() []int { return []int{math.MinInt, -5000, -1, 5001, 5002, math.MaxInt - 1, math.MaxInt} }

func badStaffs() []int { return []int{math.MinInt, -16, -1, 0, 17, 18, math.MaxInt - 1, math.MaxInt} }

func TestServeOfInvalidArguments(t *testing.T) {
	for name, list := range invalidImages() {
		for _, wait := range append(badWaits(), 0, 1, 5, 5000) {
			for _, staff := range append(badStaffs(), 1, 2, 16) {
				checkNotServed(t, name, list, wait, staff)
			}
			checkNoLeastStaff(t, name, list, wait)
		}
	}
	lists := [][]impl.Image{nil, manyImages(1, 0, 1), manyImages(2, 100000, 5000), manyImages(10, 3, 2), manyImages(16, 3, 2)}
	for _, list := range lists {
		for _, wait := range badWaits() {
			for _, staff := range append(badStaffs(), 1, 2, 16) {
				checkNotServed(t, "wait", list, wait, staff)
			}
			checkNoLeastStaff(t, "wait", list, wait)
		}
		for _, staff := range badStaffs() {
			for _, wait := range []int{0, 1, 5, 5000} {
				checkNotServed(t, "staff", list, wait, staff)
			}
		}
	}
}

func TestServeLimits(t *testing.T) {
	for _, list := range [][]impl.Image{nil, manyImages(1, 0, 1), manyImages(10, 100000, 5000)} {
		for _, wait := range []int{-2, -1, 0, 1, 4999, 5000, 5001, 5002} {
			for staff := -2; staff <= 19; staff++ {
				want := wait >= 0 && wait <= 5000 && staff >= 1 && staff <= 16
				if got := impl.Dropped(list, wait, staff) >= 0; got != want {
					t.Errorf("Dropped(%v, %d, %d) = %d", list, wait, staff, impl.Dropped(list, wait, staff))
				}
				if got := impl.MostServed(list, wait, staff) >= 0; got != want {
					t.Errorf("MostServed(%v, %d, %d) = %d", list, wait, staff, impl.MostServed(list, wait, staff))
				}
				if got := len(impl.Serve(list, wait, staff)); want && got != len(list) || !want && got != 0 {
					t.Errorf("Serve(%v, %d, %d) = %v", list, wait, staff, impl.Serve(list, wait, staff))
				}
			}
			if got := impl.LeastStaff(list, wait) >= 1; got != (wait >= 0 && wait <= 5000) {
				t.Errorf("LeastStaff(%v, %d) = %d", list, wait, impl.LeastStaff(list, wait))
			}
		}
	}
}

// plainServe lets one tick after another go by. The images wait in a row; the first one of it leaves it when an
// operator is not busy, or when it has waited too long.
func plainServe(q rush) []int {
	starts := []int{}
	busy := make([]int, q.staff)
	for tick := firstArrival(q.list); len(starts) < len(q.list); {
		first := q.list[len(starts)]
		idle := slices.Index(busy, 0)
		switch {
		case tick > first.Arrive+q.wait:
			starts = append(starts, -1)
		case tick >= first.Arrive && idle >= 0:
			starts = append(starts, tick)
			busy[idle] = first.Need
		default:
			for i := range busy {
				busy[i] = max(busy[i]-1, 0)
			}
			tick++
		}
	}
	return starts
}

func firstArrival(list []impl.Image) int {
	if len(list) == 0 {
		return 0
	}
	return list[0].Arrive
}

func TestServeOfSmallAndRandomRushes(t *testing.T) {
	rushes := randomRushes(20000, impl.MaxImages)
	for _, list := range smallImages() {
		for wait := range 5 {
			for staff := 1; staff <= 4; staff++ {
				rushes = append(rushes, rush{list, wait, staff})
			}
		}
	}
	dropped := 0
	for _, q := range rushes {
		want := plainServe(q)
		checkServe(t, q.list, q.wait, q.staff, want...)
		if slices.Contains(want, -1) {
			dropped++
		}
	}
	if dropped < 5000 {
		t.Errorf("images were dropped in only %d of %d rushes", dropped, len(rushes))
	}
}

// checkImagesAreKept calls the function with a list that has memory behind its images; neither may change.
func checkImagesAreKept(t *testing.T, list []impl.Image, call func(list []impl.Image)) {
	t.Helper()
	whole := slices.Concat(list, images([2]int{901, 1}, [2]int{0, 902}, [2]int{903, 3}))
	kept := slices.Clone(whole)
	call(whole[:len(list)])
	if !slices.Equal(whole, kept) {
		t.Errorf("the images %v are %v after the calls", kept, whole)
	}
}

func TestImagesAreNotChanged(t *testing.T) {
	lists := append(smallImages(), manyImages(16, 3, 2))
	for _, list := range invalidImages() {
		lists = append(lists, list)
	}
	for _, q := range randomRushes(200, impl.MaxImages) {
		lists = append(lists, q.list)
	}
	for _, list := range lists {
		checkImagesAreKept(t, list, func(arg []impl.Image) {
			if impl.ImagesOk(arg) != impl.ImagesOk(list) {
				t.Errorf("ImagesOk(%v) depends on what is behind the images", list)
			}
			for _, wait := range []int{-1, 0, 3} {
				impl.LeastStaff(arg, wait)
				for staff := range 3 {
					impl.Dropped(arg, wait, staff)
					impl.MostServed(arg, wait, staff)
					spoil(impl.Serve(arg, wait, staff))
				}
			}
		})
	}
}

func TestServeReturnsNewMemory(t *testing.T) {
	for _, q := range randomRushes(200, impl.MaxImages) {
		want := plainServe(q)
		spoil(impl.Serve(q.list, q.wait, q.staff))
		checkServe(t, q.list, q.wait, q.staff, want...)
	}
}
