package tests

import (
	"math"
	"math/rand"
	"slices"
	"testing"

	"loop.example/g03319/impl"
)

// plainStep moves the items in their order, each if the place and the gap ahead of it are free then.
func plainStep(b impl.Belt) impl.Belt {
	b.Items = slices.Clone(b.Items)
	for i, item := range b.Items {
		covered := map[int]bool{b.Len + 1: true}
		if i > 0 {
			for n := range b.Items[i-1].Len + b.Gap {
				covered[b.Items[i-1].Front-b.Items[i-1].Len-b.Gap+1+n] = true
			}
		}
		if !covered[item.Front+1] {
			b.Items[i].Front++
		}
	}
	return b
}

func plainMove(b impl.Belt, steps int) impl.Belt {
	for range steps {
		b = plainStep(b)
	}
	return b
}

func plainRun(b impl.Belt, steps int) (impl.Belt, []impl.Exit) {
	exits := []impl.Exit{}
	for step := range steps {
		if !b.Held && len(b.Items) > 0 && b.Items[0].Front == b.Len {
			exits = append(exits, impl.Exit{Bag: b.Items[0].Bag, Step: step})
			b.Items = b.Items[1:]
		}
		b = plainStep(b)
	}
	return b, exits
}

// randomBelts returns valid belts of all lengths, some with their items close up, some loosely filled.
func randomBelts(count int) []impl.Belt {
	r := rand.New(rand.NewSource(2))
	list := []impl.Belt{}
	for range count {
		b := impl.Belt{Len: 1 + r.Intn(impl.MaxBeltLen), Gap: r.Intn(1 + r.Intn(impl.MaxGap+1)), Held: r.Intn(4) == 0}
		size, loose := 1+r.Intn(impl.MaxBagLen), 1+r.Intn(20)
		bags := r.Perm(200)
		front := b.Len - r.Intn(loose)
		for len(b.Items) < impl.MaxOnBelt {
			item := impl.Item{Bag: 1 + bags[len(b.Items)], Front: front, Len: 1 + r.Intn(size)}
			if rear(item) < 1 {
				break
			}
			b.Items = append(b.Items, item)
			front = front - item.Len - b.Gap - r.Intn(loose)
		}
		list = append(list, b)
	}
	return list
}

func checkMove(t *testing.T, b impl.Belt, steps int, want impl.Belt) {
	t.Helper()
	if got := impl.Move(b, steps); !sameBelt(got, want) {
		t.Errorf("Move(%v, %d) = %v, want %v", b, steps, got, want)
	}
}

func TestMove(t *testing.T) {
	b := belt(10, 1, [3]int{1, 9, 3}, [3]int{2, 4, 2})
	checkMove(t, b, 0, b)
	checkMove(t, b, 1, belt(10, 1, [3]int{1, 10, 3}, [3]int{2, 5, 2}))
	checkMove(t, b, 2, belt(10, 1, [3]int{1, 10, 3}, [3]int{2, 6, 2}))
	checkMove(t, b, 3, belt(10, 1, [3]int{1, 10, 3}, [3]int{2, 6, 2}))
	checkMove(t, heldBelt(b), 3, heldBelt(belt(10, 1, [3]int{1, 10, 3}, [3]int{2, 6, 2})))
	checkMove(t, belt(10, 3), 5, belt(10, 3))
	// Items that stand close up move together, for the one ahead moves first.
	checkMove(t, belt(9, 0, [3]int{1, 6, 2}, [3]int{2, 4, 3}, [3]int{3, 1, 1}), 1, belt(9, 0, [3]int{1, 7, 2}, [3]int{2, 5, 3}, [3]int{3, 2, 1}))
	checkMove(t, belt(9, 0, [3]int{1, 6, 2}, [3]int{2, 4, 3}, [3]int{3, 1, 1}), 9, belt(9, 0, [3]int{1, 9, 2}, [3]int{2, 7, 3}, [3]int{3, 4, 1}))
	checkMove(t, belt(9, 2, [3]int{1, 9, 2}, [3]int{2, 1, 1}), 3, belt(9, 2, [3]int{1, 9, 2}, [3]int{2, 4, 1}))
	checkMove(t, belt(9, 2, [3]int{1, 9, 2}, [3]int{2, 1, 1}), 5, belt(9, 2, [3]int{1, 9, 2}, [3]int{2, 5, 1}))
	checkMove(t, belt(400, 0, [3]int{1, 1, 1}), 398, belt(400, 0, [3]int{1, 399, 1}))
	checkMove(t, belt(400, 0, [3]int{1, 1, 1}), 400, belt(400, 0, [3]int{1, 400, 1}))
}

func TestStepLimits(t *testing.T) {
	for _, b := range []impl.Belt{belt(100, 1, [3]int{1, 70, 3}, [3]int{2, 4, 2}), heldBelt(belt(100, 1, [3]int{1, 70, 3}, [3]int{2, 4, 2}))} {
		for _, steps := range []int{math.MinInt, -2000, -1, 0, 2001, 4000, math.MaxInt} {
			checkMove(t, b, steps, b)
			if got, exits := impl.Run(b, steps); !sameBelt(got, b) || len(exits) != 0 {
				t.Errorf("Run(%v, %d) = %v, %v", b, steps, got, exits)
			}
		}
		for _, steps := range []int{1, 2, 1999, 2000} {
			checkMove(t, b, steps, plainMove(b, steps))
			checkRun(t, b, steps)
		}
	}
}

func TestMoveOfSmallBelts(t *testing.T) {
	for _, b := range smallBelts() {
		for steps := range 8 {
			checkMove(t, b, steps, plainMove(b, steps))
		}
	}
}

func TestMoveOfRandomBelts(t *testing.T) {
	for _, b := range randomBelts(200) {
		for _, steps := range []int{1, 2, 5, 30, 500} {
			checkMove(t, b, steps, plainMove(b, steps))
		}
		checkMove(t, impl.Move(b, 7), 11, plainMove(b, 18))
	}
}

func TestBacklog(t *testing.T) {
	cases := []struct {
		b    impl.Belt
		want int
	}{
		{belt(10, 1, [3]int{1, 9, 3}, [3]int{2, 4, 2}), 0},
		{belt(10, 1, [3]int{1, 10, 3}, [3]int{2, 6, 2}), 2},
		{belt(10, 1, [3]int{1, 10, 3}, [3]int{2, 5, 2}), 1},
		{heldBelt(belt(10, 1, [3]int{1, 10, 3}, [3]int{2, 5, 2})), 1},
		{heldBelt(belt(10, 1, [3]int{1, 9, 3})), 0},
		{belt(10, 1), 0},
		{belt(10, 0, [3]int{1, 9, 3}, [3]int{2, 6, 2}, [3]int{3, 4, 4}), 0},
		{belt(12, 0, [3]int{1, 12, 3}, [3]int{2, 9, 2}, [3]int{3, 6, 4}, [3]int{4, 2, 2}), 2},
		{rowOfBags(400, 9, 40, 1), 40},
	}
	for _, c := range cases {
		if got := impl.Backlog(c.b); got != c.want {
			t.Errorf("Backlog(%v) = %d, want %d", c.b, got, c.want)
		}
	}
}

func TestBacklogCountsItemsThatStay(t *testing.T) {
	for _, b := range append(smallBelts(), randomBelts(200)...) {
		for _, b := range []impl.Belt{b, plainMove(b, 3)} {
			want := 0
			for i, item := range plainStep(b).Items {
				if item.Front == b.Items[i].Front {
					want++
				}
			}
			if got := impl.Backlog(b); got != want {
				t.Errorf("Backlog(%v) = %d, want %d", b, got, want)
			}
		}
	}
}

func checkRun(t *testing.T, b impl.Belt, steps int) {
	t.Helper()
	want, wantExits := plainRun(b, steps)
	if got, exits := impl.Run(b, steps); !sameBelt(got, want) || !slices.Equal(exits, wantExits) {
		t.Errorf("Run(%v, %d) = %v, %v; want %v, %v", b, steps, got, exits, want, wantExits)
	}
}

func TestRun(t *testing.T) {
	b := belt(10, 1, [3]int{7, 9, 3}, [3]int{2, 5, 2})
	cases := []struct {
		b     impl.Belt
		steps int
		want  impl.Belt
		exits []impl.Exit
	}{
		{b, 0, b, nil},
		{b, 1, belt(10, 1, [3]int{7, 10, 3}, [3]int{2, 6, 2}), nil},
		{b, 2, belt(10, 1, [3]int{2, 7, 2}), []impl.Exit{{Bag: 7, Step: 1}}},
		{b, 5, belt(10, 1, [3]int{2, 10, 2}), []impl.Exit{{Bag: 7, Step: 1}}},
		{b, 6, belt(10, 1), []impl.Exit{{Bag: 7, Step: 1}, {Bag: 2, Step: 5}}},
		{b, 2000, belt(10, 1), []impl.Exit{{Bag: 7, Step: 1}, {Bag: 2, Step: 5}}},
		{heldBelt(b), 2000, heldBelt(belt(10, 1, [3]int{7, 10, 3}, [3]int{2, 6, 2})), nil},
		{belt(10, 1, [3]int{7, 10, 3}), 0, belt(10, 1, [3]int{7, 10, 3}), nil},
		{belt(10, 1, [3]int{7, 10, 3}), 1, belt(10, 1), []impl.Exit{{Bag: 7, Step: 0}}},
		{belt(10, 1), 2000, belt(10, 1), nil},
	}
	for _, c := range cases {
		if got, exits := impl.Run(c.b, c.steps); !sameBelt(got, c.want) || !slices.Equal(exits, c.exits) {
			t.Errorf("Run(%v, %d) = %v, %v; want %v, %v", c.b, c.steps, got, exits, c.want, c.exits)
		}
	}
}

func TestRunOfSmallAndRandomBelts(t *testing.T) {
	for _, b := range smallBelts() {
		for steps := range 8 {
			checkRun(t, b, steps)
		}
	}
	for _, b := range randomBelts(200) {
		for _, steps := range []int{1, 2, 5, 30, 100, 500} {
			checkRun(t, b, steps)
		}
	}
}

func TestRunLetsItemsLeaveAfterThePlacesAheadOfThem(t *testing.T) {
	for _, b := range append(smallBelts(), randomBelts(200)...) {
		b.Held = false
		for _, steps := range []int{1, 4, 50, 399, 400, 2000} {
			want := []impl.Exit{}
			for _, item := range b.Items {
				if b.Len-item.Front < steps {
					want = append(want, impl.Exit{Bag: item.Bag, Step: b.Len - item.Front})
				}
			}
			got, exits := impl.Run(b, steps)
			if !slices.Equal(exits, want) || !slices.Equal(bagsOf(got), bagsOf(b)[len(want):]) {
				t.Errorf("Run(%v, %d) = %v, %v; want the exits %v", b, steps, got, exits, want)
			}
		}
	}
}

func TestRoomFor(t *testing.T) {
	b := belt(10, 1, [3]int{1, 9, 3}, [3]int{2, 4, 2})
	cases := []struct {
		b     impl.Belt
		sizes []int
		want  int
	}{
		{b, []int{2, 2, 2, 2}, 1},
		{b, []int{3, 1}, 1},
		{b, []int{4, 1}, 0},
		{b, []int{1, 1, 1}, 2},
		{b, []int{1}, 1},
		{b, []int{}, 0},
		{b, nil, 0},
		{heldBelt(b), []int{2, 2, 2, 2}, 1},
		{belt(10, 0, [3]int{1, 9, 3}, [3]int{2, 4, 2}), []int{2, 2, 1, 1}, 3},
		{belt(10, 20, [3]int{1, 9, 3}), []int{1}, 0},
		{belt(10, 20), []int{10, 1}, 1},
		{belt(10, 20), []int{11, 1}, 0},
		{belt(10, 20), nil, 0},
		{belt(10, 3), []int{3, 4, 1}, 2},
		{belt(10, 3), []int{3, 3, 1}, 2},
		{belt(10, 1), []int{4, 2, 2}, 3},
		{belt(10, 1), []int{4, 2, 3}, 2},
		{belt(60, 0), []int{60}, 1},
		{belt(59, 0), []int{60}, 0},
		{belt(400, 20), []int{60, 60, 60, 60, 60, 60}, 5},
		{belt(400, 8), []int{60, 60, 60, 60, 60, 60}, 6},
	}
	for _, c := range cases {
		if got := impl.RoomFor(c.b, c.sizes); got != c.want {
			t.Errorf("RoomFor(%v, %v) = %d, want %d", c.b, c.sizes, got, c.want)
		}
	}
}

func TestRoomForInvalidSizes(t *testing.T) {
	for _, size := range []int{math.MinInt, -1, 0, 61, 62, math.MaxInt} {
		for _, sizes := range [][]int{{size}, {size, 1}, {1, size}, {60, 60, 60, size}, {60, size, 60}} {
			for _, b := range []impl.Belt{belt(400, 0), belt(10, 1), belt(1, 0, [3]int{1, 1, 1}), rowOfBags(400, 0, 40, 1)} {
				if got := impl.RoomFor(b, sizes); got != -1 {
					t.Errorf("RoomFor(%v, %v) = %d, want -1", b, sizes, got)
				}
			}
		}
	}
	for _, size := range []int{1, 60} {
		if got := impl.RoomFor(belt(400, 0), []int{size}); got != 1 {
			t.Errorf("RoomFor of a size %d = %d, want 1", size, got)
		}
	}
}

func TestRoomForItemLimit(t *testing.T) {
	for count := range impl.MaxOnBelt + 1 {
		for more := range 45 {
			sizes := slices.Repeat([]int{1}, more)
			if got, want := impl.RoomFor(rowOfBags(400, 1, count, 1), sizes), min(more, impl.MaxOnBelt-count); got != want {
				t.Errorf("RoomFor with %d items and %d sizes = %d, want %d", count, more, got, want)
			}
		}
	}
	if got := impl.RoomFor(belt(400, 0), slices.Repeat([]int{1}, 100000)); got != impl.MaxOnBelt {
		t.Errorf("RoomFor of 100000 sizes = %d, want %d", got, impl.MaxOnBelt)
	}
}

// plainRoom tries all numbers of steps before each bag.
func plainRoom(b impl.Belt, sizes []int) int {
	best := 0
	for range b.Len + 1 {
		if len(sizes) > 0 && sizes[0] <= plainFree(b) {
			next := b
			next.Items = append(slices.Clone(b.Items), impl.Item{Bag: 100 + len(sizes), Front: sizes[0], Len: sizes[0]})
			best = max(best, 1+plainRoom(next, sizes[1:]))
		}
		b = plainStep(b)
	}
	return best
}

func TestRoomForIsTheGreatestNumber(t *testing.T) {
	lists := [][]int{{}, {1, 1, 1}, {2, 1, 1}, {1, 2, 1}, {1, 1, 2}, {2, 2}, {3, 1}, {1, 3}, {4, 1}, {1, 5}, {6, 1}, {7}}
	for _, b := range smallBelts() {
		for _, sizes := range lists {
			if got, want := impl.RoomFor(b, sizes), plainRoom(b, sizes); got != want {
				t.Errorf("RoomFor(%v, %v) = %d, want %d", b, sizes, got, want)
			}
		}
	}
}

func TestAsManyEnterAsRoomForTells(t *testing.T) {
	r := rand.New(rand.NewSource(3))
	for _, b := range randomBelts(300) {
		sizes := []int{}
		most := 1 + r.Intn(impl.MaxBagLen)
		for range r.Intn(45) {
			sizes = append(sizes, 1+r.Intn(most))
		}
		room := impl.RoomFor(b, sizes)
		if room < 0 || room > len(sizes) {
			t.Fatalf("RoomFor(%v, %v) = %d", b, sizes, room)
		}
		next := b
		for i, size := range sizes[:room] {
			ok := false
			if next, ok = impl.Enter(impl.Move(next, 500), 1000+i, size); !ok {
				t.Fatalf("RoomFor(%v, %v) = %d, but bag %d cannot enter %v", b, sizes, room, i, next)
			}
		}
		for range 450 {
			if room == len(sizes) {
				break
			}
			if got, ok := impl.Enter(next, 1000+room, sizes[room]); ok {
				t.Fatalf("RoomFor(%v, %v) = %d, but another bag can enter: %v", b, sizes, room, got)
			}
			next = impl.Move(next, 1)
		}
	}
}

func TestValidBeltsStayValid(t *testing.T) {
	r := rand.New(rand.NewSource(4))
	for _, b := range append(smallBelts(), randomBelts(200)...) {
		for bag := 300; bag < 360; bag++ {
			switch r.Intn(4) {
			case 0:
				b = impl.Move(b, r.Intn(4))
			case 1:
				b, _, _ = impl.Leave(b)
			case 2:
				b, _ = impl.Run(b, r.Intn(4))
			case 3:
				b, _ = impl.Enter(b, bag, 1+r.Intn(1+max(0, impl.FreeBehind(b))))
			}
			if !impl.BeltOk(b) {
				t.Fatalf("the belt %v is not valid", b)
			}
		}
	}
}

// scrawl overwrites the items of a result, and the memory behind them.
func scrawl(b impl.Belt) {
	for i := range b.Items[:cap(b.Items)] {
		b.Items[:cap(b.Items)][i] = impl.Item{Bag: -7, Front: -7, Len: -7}
	}
}

func callAllOnBelt(b impl.Belt, sizes []int) {
	impl.BeltOk(b)
	impl.FreeBehind(b)
	impl.CoverAt(b, 1)
	impl.Backlog(b)
	impl.RoomFor(b, sizes)
	for _, size := range []int{0, 1} {
		after, _ := impl.Enter(b, 300, size)
		scrawl(after)
	}
	after, _, _ := impl.Leave(b)
	scrawl(after)
	for _, steps := range []int{-1, 0, 1, 3, 2001} {
		scrawl(impl.Move(b, steps))
		after, exits := impl.Run(b, steps)
		scrawl(after)
		clear(exits[:cap(exits)])
	}
}

// checkItemsAreKept calls the function with belts that have memory behind their items; neither may change.
func checkItemsAreKept(t *testing.T, call func(b impl.Belt)) {
	t.Helper()
	list := append(smallBelts(), randomBelts(50)...)
	for _, b := range invalidBelts() {
		list = append(list, b)
	}
	spare := []impl.Item{{Bag: 901, Front: 1, Len: 1}, {Bag: 902, Front: 2, Len: 2}, {Bag: 903, Front: 3, Len: 3}}
	for _, b := range list {
		whole := slices.Concat(b.Items, spare)
		kept := slices.Clone(whole)
		arg := b
		arg.Items = whole[:len(b.Items)]
		call(arg)
		if !slices.Equal(whole, kept) {
			t.Errorf("the items of %v are %v after the calls, want %v", b, whole, kept)
		}
	}
}

func TestBeltArgumentsAreNotChanged(t *testing.T) {
	checkItemsAreKept(t, func(b impl.Belt) {
		sizes := []int{1, 2, 1, 8, 9}
		callAllOnBelt(b, sizes[:3])
		if !slices.Equal(sizes, []int{1, 2, 1, 8, 9}) {
			t.Errorf("the sizes are %v after the calls", sizes)
		}
	})
}

func TestBeltResultsAreNewEachTime(t *testing.T) {
	for _, b := range randomBelts(50) {
		first, exits := impl.Run(b, 60)
		scrawl(first)
		clear(exits[:cap(exits)])
		scrawl(impl.Move(b, 60))
		checkRun(t, b, 60)
		checkMove(t, b, 60, plainMove(b, 60))
	}
}
