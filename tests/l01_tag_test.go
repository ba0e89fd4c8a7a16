package tests

import (
	"fmt"
	"math"
	"slices"
	"strings"
	"testing"

	"loop.example/g03319/impl"
)

// edgeTags are valid tags at and near the limits, and some ordinary ones.
func edgeTags() []impl.Tag {
	list := []impl.Tag{}
	for _, lead := range []int{0, 1, 2, 3, 6, 7, 9} {
		for _, airline := range []int{1, 2, 7, 8, 9, 10, 70, 71, 100, 220, 333, 456, 700, 707, 777, 998, 999} {
			for _, serial := range []int{0, 1, 7, 9, 10, 90909, 99999, 100000, 123456, 333333, 789012, 999998, 999999} {
				list = append(list, impl.Tag{Lead: lead, Airline: airline, Serial: serial})
			}
		}
	}
	return list
}

func invalidTags() []impl.Tag {
	return []impl.Tag{
		{},
		{Lead: 0, Airline: 0, Serial: 0},
		{Lead: 5, Airline: 0, Serial: 5},
		{Lead: -1, Airline: 1, Serial: 0},
		{Lead: 10, Airline: 1, Serial: 0},
		{Lead: 1, Airline: -1, Serial: 0},
		{Lead: 1, Airline: 1000, Serial: 0},
		{Lead: 0, Airline: 1000, Serial: 0},
		{Lead: 1, Airline: 1, Serial: -1},
		{Lead: 1, Airline: 1, Serial: 1000000},
		{Lead: 0, Airline: 0, Serial: 1000000},
		{Lead: -1, Airline: 1001, Serial: 0},
		{Lead: 1, Airline: 2, Serial: -1000000},
		{Lead: math.MaxInt, Airline: 1, Serial: 1},
		{Lead: math.MinInt, Airline: 1, Serial: 1},
		{Lead: 1, Airline: math.MaxInt, Serial: 1},
		{Lead: 1, Airline: math.MinInt, Serial: 1},
		{Lead: 1, Airline: 1, Serial: math.MaxInt},
		{Lead: 1, Airline: 1, Serial: math.MinInt},
		{Lead: math.MaxInt, Airline: math.MaxInt, Serial: math.MaxInt},
	}
}

// plainNumber and plainText are what the number and the text of a valid tag must be.
func plainNumber(t impl.Tag) int {
	return t.Lead*1000000000 + t.Airline*1000000 + t.Serial
}

func plainText(t impl.Tag) string {
	return fmt.Sprintf("%d%03d%06d-%d", t.Lead, t.Airline, t.Serial, plainNumber(t)%7)
}

// plainTag reads a text byte by byte.
func plainTag(s string) (impl.Tag, bool) {
	if len(s) != 12 || s[10] != '-' {
		return impl.Tag{}, false
	}
	n := 0
	for i := range 12 {
		if i != 10 && (s[i] < '0' || s[i] > '9') {
			return impl.Tag{}, false
		}
		if i < 10 {
			n = 10*n + int(s[i]-'0')
		}
	}
	t := impl.Tag{Lead: n / 1000000000, Airline: n / 1000000 % 1000, Serial: n % 1000000}
	return t, t.Airline > 0 && n%7 == int(s[11]-'0')
}

// plainCandidates counts through all digits for the unknown bytes of a text of the right form.
func plainCandidates(s string) []impl.Tag {
	list := []impl.Tag{}
	total := 1
	for range strings.Count(s, "?") {
		total *= 10
	}
	for n := range total {
		text := []byte(s)
		for i, rest := 11, n; i >= 0; i-- {
			if text[i] == '?' {
				text[i] = byte('0' + rest%10)
				rest /= 10
			}
		}
		if t, ok := plainTag(string(text)); ok {
			list = append(list, t)
		}
	}
	return list
}

func ascending(list []impl.Tag) bool {
	for i := 1; i < len(list); i++ {
		if plainNumber(list[i-1]) >= plainNumber(list[i]) {
			return false
		}
	}
	return true
}

func TestTagOk(t *testing.T) {
	for _, tag := range edgeTags() {
		if !impl.TagOk(tag) {
			t.Errorf("TagOk(%v) = false", tag)
		}
	}
	for _, tag := range invalidTags() {
		if impl.TagOk(tag) {
			t.Errorf("TagOk(%v) = true", tag)
		}
	}
	for n := -2; n <= 1002; n++ {
		if got, want := impl.TagOk(impl.Tag{Lead: n, Airline: 5, Serial: 5}), n >= 0 && n <= 9; got != want {
			t.Errorf("TagOk with Lead %d = %v", n, got)
		}
		if got, want := impl.TagOk(impl.Tag{Lead: 5, Airline: n, Serial: 5}), n >= 1 && n <= 999; got != want {
			t.Errorf("TagOk with Airline %d = %v", n, got)
		}
		if got, want := impl.TagOk(impl.Tag{Lead: 5, Airline: 5, Serial: 999000 + n}), n <= 999; got != want {
			t.Errorf("TagOk with Serial %d = %v", 999000+n, got)
		}
	}
}

func TestTagNumber(t *testing.T) {
	cases := []struct {
		tag  impl.Tag
		want int
	}{
		{impl.Tag{Lead: 0, Airline: 1, Serial: 0}, 1000000},
		{impl.Tag{Lead: 0, Airline: 220, Serial: 123456}, 220123456},
		{impl.Tag{Lead: 1, Airline: 2, Serial: 3}, 1002000003},
		{impl.Tag{Lead: 9, Airline: 999, Serial: 999999}, 9999999999},
	}
	for _, c := range cases {
		if got := impl.TagNumber(c.tag); got != c.want {
			t.Errorf("TagNumber(%v) = %d, want %d", c.tag, got, c.want)
		}
	}
	for _, tag := range edgeTags() {
		if got := impl.TagNumber(tag); got != plainNumber(tag) {
			t.Errorf("TagNumber(%v) = %d", tag, got)
		}
	}
}

func TestTagCheck(t *testing.T) {
	seen := map[int]bool{}
	for _, tag := range edgeTags() {
		got := impl.TagCheck(tag)
		seen[got] = true
		if got != plainNumber(tag)%7 {
			t.Errorf("TagCheck(%v) = %d, want %d", tag, got, plainNumber(tag)%7)
		}
	}
	for check := range 7 {
		if !seen[check] {
			t.Errorf("no tag has the check %d", check)
		}
	}
	if got := impl.TagCheck(impl.Tag{Lead: 0, Airline: 220, Serial: 123456}); got != 0 {
		t.Errorf("TagCheck of the example = %d, want 0", got)
	}
	if got := impl.TagCheck(impl.Tag{Lead: 0, Airline: 1, Serial: 0}); got != 1 {
		t.Errorf("TagCheck of 1000000 = %d, want 1", got)
	}
}

func TestFormatTag(t *testing.T) {
	cases := []struct {
		tag  impl.Tag
		want string
	}{
		{impl.Tag{Lead: 0, Airline: 220, Serial: 123456}, "0220123456-0"},
		{impl.Tag{Lead: 0, Airline: 1, Serial: 0}, "0001000000-1"},
		{impl.Tag{Lead: 1, Airline: 2, Serial: 3}, "1002000003-4"},
		{impl.Tag{Lead: 9, Airline: 999, Serial: 999999}, "9999999999-3"},
	}
	for _, c := range cases {
		if got := impl.FormatTag(c.tag); got != c.want {
			t.Errorf("FormatTag(%v) = %q, want %q", c.tag, got, c.want)
		}
	}
	for _, tag := range edgeTags() {
		if got := impl.FormatTag(tag); got != plainText(tag) {
			t.Errorf("FormatTag(%v) = %q, want %q", tag, got, plainText(tag))
		}
	}
}

func TestInvalidTagsHaveNoValues(t *testing.T) {
	for _, tag := range invalidTags() {
		if got := impl.TagNumber(tag); got != -1 {
			t.Errorf("TagNumber(%v) = %d, want -1", tag, got)
		}
		if got := impl.TagCheck(tag); got != -1 {
			t.Errorf("TagCheck(%v) = %d, want -1", tag, got)
		}
		if got := impl.FormatTag(tag); got != "" {
			t.Errorf("FormatTag(%v) = %q, want \"\"", tag, got)
		}
		if got := impl.NearTags(tag); len(got) != 0 {
			t.Errorf("NearTags(%v) = %v, want nil", tag, got)
		}
	}
}

func TestParseTagReadsEachTagAgain(t *testing.T) {
	for _, tag := range edgeTags() {
		if got, ok := impl.ParseTag(plainText(tag)); got != tag || !ok {
			t.Errorf("ParseTag(%q) = %v, %v", plainText(tag), got, ok)
		}
		if got, ok := impl.ParseTag(impl.FormatTag(tag)); got != tag || !ok {
			t.Errorf("ParseTag(FormatTag(%v)) = %v, %v", tag, got, ok)
		}
	}
}

func TestParseTagInvalid(t *testing.T) {
	cases := []string{
		"", "-", "0", "0220123456", "0220123456-", "0220123456-00", "00220123456-0", "220123456-0", "02201234560-0",
		"0220123456-1", "0220123456-7", "0220123456-9", "0220123456--0", "0220123456_0", "0220123456 0", "022012345600",
		"0220123456-?", "?220123456-0", "022012345?-0", "0220123456-0 ", " 0220123456-0", "0220123456-0\n",
		"-220123456-0", "+220123456-0", "+022012345-0", "-022012345-0", " 220123456-0", "022012345a-0", "0220123456-a", "0x20123456-0",
		"0_20123456-0", "0220123456-:", "0220123456-/", "022012345:-0", "022012345/-0",
		"0000000000-0", "0000000001-1", "0000123456-4", "1000000000-6", "9000999999-4",
		"0220123456\x000", "022012345\xff-0", "02201234é-0", "０220123456-0", "------------", "????????????",
		strings.Repeat("0", 12), strings.Repeat("9", 12), strings.Repeat("0", 5000),
	}
	for _, s := range cases {
		if got, ok := impl.ParseTag(s); got != (impl.Tag{}) || ok {
			t.Errorf("ParseTag(%.40q) = %v, %v; want a zero tag, false", s, got, ok)
		}
	}
}

func TestParseTagEachByteAtEachPlace(t *testing.T) {
	for _, text := range []string{"0220123456-0", "9999999999-3", "0001000000-1", "0123456789-1"} {
		for i := range len(text) {
			for b := range 256 {
				s := text[:i] + string([]byte{byte(b)}) + text[i+1:]
				want, wantOk := plainTag(s)
				if !wantOk {
					want = impl.Tag{}
				}
				if got, ok := impl.ParseTag(s); got != want || ok != wantOk {
					t.Errorf("ParseTag(%q) = %v, %v; want %v, %v", s, got, ok, want, wantOk)
				}
			}
		}
	}
}

func checkCandidates(t *testing.T, s string, want []impl.Tag) {
	t.Helper()
	if got, ok := impl.Candidates(s); !ok || !slices.Equal(got, want) {
		t.Errorf("Candidates(%q) = %v, %v; want %v, true", s, got, ok, want)
	}
}

func TestCandidates(t *testing.T) {
	checkCandidates(t, "0220123456-0", []impl.Tag{{Lead: 0, Airline: 220, Serial: 123456}})
	checkCandidates(t, "022012345?-0", []impl.Tag{{Lead: 0, Airline: 220, Serial: 123456}})
	checkCandidates(t, "022012345?-1", []impl.Tag{{Lead: 0, Airline: 220, Serial: 123450}, {Lead: 0, Airline: 220, Serial: 123457}})
	checkCandidates(t, "0220123456-?", []impl.Tag{{Lead: 0, Airline: 220, Serial: 123456}})
	checkCandidates(t, "?220123456-0", []impl.Tag{{Lead: 0, Airline: 220, Serial: 123456}, {Lead: 7, Airline: 220, Serial: 123456}})
	checkCandidates(t, "?220123456-?", plainCandidates("?220123456-?"))
}

func TestCandidatesNone(t *testing.T) {
	for _, s := range []string{
		"0220123456-1", "0220123456-7", "0220123456-9", "022012345?-7", "??20123456-8", "02201234??-9", "???0123456-9",
		"0000000000-?", "0000123456-4", "000012345?-?", "0000123???-0", "5000123456-?", "?00012345?-?",
	} {
		checkCandidates(t, s, nil)
	}
}

func TestCandidatesCounts(t *testing.T) {
	cases := []struct {
		s    string
		want int
	}{
		{"0220123456-?", 1}, {"022012345?-?", 10}, {"02201234??-?", 100}, {"?220123456-?", 10}, {"??20123456-?", 100},
		{"0?00123456-?", 9}, {"0??0123456-?", 99}, {"?0?0123456-?", 90}, {"?000123456-?", 0},
	}
	for _, c := range cases {
		got, ok := impl.Candidates(c.s)
		if !ok || len(got) != c.want || !ascending(got) {
			t.Errorf("Candidates(%q) has %d tags, %v; want %d, ascending", c.s, len(got), ok, c.want)
		}
	}
	for check := range 10 {
		s := fmt.Sprintf("022012???%d-%d", check, check)
		checkCandidates(t, s, plainCandidates(s))
	}
}

// withUnknown returns s with "?" at all of the places.
func withUnknown(s string, places ...int) string {
	b := []byte(s)
	for _, i := range places {
		b[i] = '?'
	}
	return string(b)
}

func TestCandidatesAtAllPlaces(t *testing.T) {
	for _, text := range []string{"0220123456-0", "0000000000-1", "0001000000-1", "9999999999-3", "3070707070-8"} {
		for i := range 12 {
			for j := i; j < 12; j++ {
				for k := j; k < 12; k++ {
					if i == 10 || j == 10 || k == 10 {
						continue
					}
					s := withUnknown(text, i, j, k)
					got, ok := impl.Candidates(s)
					if !ok || !slices.Equal(got, plainCandidates(s)) {
						t.Fatalf("Candidates(%q) = %v, %v; want %v", s, got, ok, plainCandidates(s))
					}
				}
			}
		}
	}
}

func TestCandidatesDifferInUnknownPlacesAlone(t *testing.T) {
	for _, tag := range edgeTags() {
		text := plainText(tag)
		for _, places := range [][]int{{}, {0}, {3}, {9}, {11}, {0, 1}, {4, 9}, {8, 11}, {1, 2, 3}, {0, 5, 11}} {
			s := withUnknown(text, places...)
			list, ok := impl.Candidates(s)
			if !ok || !slices.Contains(list, tag) || !ascending(list) {
				t.Fatalf("Candidates(%q) = %v, %v", s, list, ok)
			}
			for _, other := range list {
				if withUnknown(impl.FormatTag(other), places...) != s {
					t.Errorf("candidate %v of %q differs from it in another place", other, s)
				}
			}
		}
	}
}

func TestCandidatesInvalid(t *testing.T) {
	cases := []string{
		"", "-", "?", "0220123456", "0220123456-", "0220123456-00", "00220123456-0", "220123456-0", "022012345?-", "022012345?-00",
		"0220123456?0", "0220123456_0", "0220123456 0", "022012345600", "0220123456--", "0220123456-a", "0220123456- ",
		"????123456-0", "022012????-0", "0220123???-?", "?2?0?2345?-0", "??????????-?", "????????????", "??????????-0",
		"+220123456-0", "-220123456-0", " 220123456-0", "022012345a-0", "022012345A-?", "022-123456-0", "022012345*-0",
		"022012345:-0", "022012345/-0", "022012345>-0", "022012345@-0",
		"02201234é-0", "022012345é0", "02201234５?0", "０20123456-0", "0220123456\x000", "\xff220123456-0", "0220123456-\xff",
		"éééééé", "0220123456-é", "0220123456é", "？220123456-0", strings.Repeat("é", 12), strings.Repeat("?", 5000),
	}
	for _, s := range cases {
		if got, ok := impl.Candidates(s); len(got) != 0 || ok {
			t.Errorf("Candidates(%.40q) = %v, %v; want nil, false", s, got, ok)
		}
		if got, ok := impl.RepairTag(s); got != (impl.Tag{}) || ok {
			t.Errorf("RepairTag(%.40q) = %v, %v; want a zero tag, false", s, got, ok)
		}
	}
}

func TestCandidatesUnknownLimit(t *testing.T) {
	for i := range 12 {
		for j := i + 1; j < 12; j++ {
			for k := j + 1; k < 12; k++ {
				for l := k + 1; l < 12; l++ {
					s := withUnknown("0220123456-0", i, j, k, l)
					if got, ok := impl.Candidates(s); len(got) != 0 || ok {
						t.Fatalf("Candidates(%q) = %v, %v; want nil, false", s, got, ok)
					}
				}
			}
		}
	}
}

func TestCandidatesEachByteAtEachPlace(t *testing.T) {
	for _, text := range []string{"0220123456-0", "022012345?-1", "??20123456-0"} {
		for i := range 12 {
			for b := range 256 {
				s := text[:i] + string([]byte{byte(b)}) + text[i+1:]
				want := i == 10 && b == '-' || i != 10 && (b == '?' || b >= '0' && b <= '9')
				got, ok := impl.Candidates(s)
				if ok != want || !ok && len(got) != 0 {
					t.Errorf("Candidates(%q) = %v, %v; want %v", s, got, ok, want)
				}
			}
		}
	}
}

func TestCandidatesReturnNewMemory(t *testing.T) {
	want := plainCandidates("022012345?-1")
	first, _ := impl.Candidates("022012345?-1")
	first[0] = impl.Tag{}
	_ = append(first[:1], impl.Tag{})
	checkCandidates(t, "022012345?-1", want)
	tag := impl.Tag{Lead: 0, Airline: 220, Serial: 123456}
	near := impl.NearTags(tag)
	near[0] = impl.Tag{}
	_ = append(near[:1], impl.Tag{})
	if got := impl.NearTags(tag); !slices.Equal(got, plainNear(tag)) {
		t.Errorf("NearTags(%v) = %v after a change of its last result", tag, got)
	}
}

func TestRepairTag(t *testing.T) {
	cases := []struct {
		s    string
		want impl.Tag
	}{
		{"0220123456-0", impl.Tag{Lead: 0, Airline: 220, Serial: 123456}},
		{"022012345?-0", impl.Tag{Lead: 0, Airline: 220, Serial: 123456}},
		{"0220123456-?", impl.Tag{Lead: 0, Airline: 220, Serial: 123456}},
		{"022012?456-0", impl.Tag{Lead: 0, Airline: 220, Serial: 123456}},
		{"0?00000000-5", impl.Tag{Lead: 0, Airline: 600, Serial: 0}},
		{"000?000000-3", impl.Tag{Lead: 0, Airline: 3, Serial: 0}},
		{"000?000000-0", impl.Tag{Lead: 0, Airline: 7, Serial: 0}},
	}
	for _, c := range cases {
		if got, ok := impl.RepairTag(c.s); got != c.want || !ok {
			t.Errorf("RepairTag(%q) = %v, %v; want %v, true", c.s, got, ok, c.want)
		}
	}
}

func TestRepairTagWithoutOneCandidate(t *testing.T) {
	for _, s := range []string{
		"0220123456-1", "0220123456-9", "0000000000-0", "0000000000-?", "022012345?-8", // none
		"022012345?-1", "?220123456-0", "022012345?-?", "02201234??-0", "0220123???-0", "000?000000-1", // several
	} {
		if got, ok := impl.RepairTag(s); got != (impl.Tag{}) || ok {
			t.Errorf("RepairTag(%q) = %v, %v; want a zero tag, false", s, got, ok)
		}
	}
}

func TestRepairTagReturnsTheOnlyCandidate(t *testing.T) {
	for _, tag := range edgeTags() {
		for i := range 12 {
			if i == 10 {
				continue
			}
			s := withUnknown(plainText(tag), i)
			want, one := impl.Tag{}, len(plainCandidates(s)) == 1
			if one {
				want = tag
			}
			if got, ok := impl.RepairTag(s); got != want || ok != one {
				t.Errorf("RepairTag(%q) = %v, %v; want %v, %v", s, got, ok, want, one)
			}
		}
	}
}

// plainNear tries all digits at all places of the number.
func plainNear(tag impl.Tag) []impl.Tag {
	list := []impl.Tag{}
	text := plainText(tag)
	for i := range 10 {
		for d := '0'; d <= '9'; d++ {
			if other, ok := plainTag(text[:i] + string(d) + text[i+1:]); ok && other != tag {
				list = append(list, other)
			}
		}
	}
	slices.SortFunc(list, func(a, b impl.Tag) int { return plainNumber(a) - plainNumber(b) })
	return list
}

func TestNearTags(t *testing.T) {
	got := impl.NearTags(impl.Tag{Lead: 0, Airline: 220, Serial: 123456})
	want := []impl.Tag{
		{Lead: 0, Airline: 220, Serial: 193456}, {Lead: 0, Airline: 220, Serial: 823456}, {Lead: 0, Airline: 227, Serial: 123456},
		{Lead: 0, Airline: 290, Serial: 123456}, {Lead: 0, Airline: 920, Serial: 123456}, {Lead: 7, Airline: 220, Serial: 123456},
	}
	if !slices.Equal(got, want) {
		t.Errorf("NearTags of the example = %v, want %v", got, want)
	}
	for _, tag := range []impl.Tag{{Lead: 3, Airline: 333, Serial: 333333}, {Lead: 6, Airline: 543, Serial: 654345}} {
		if got := impl.NearTags(tag); len(got) != 0 {
			t.Errorf("NearTags(%v) = %v, want none", tag, got)
		}
	}
	for _, tag := range append(edgeTags(), impl.Tag{Lead: 8, Airline: 191, Serial: 708192}) {
		if got := impl.NearTags(tag); !slices.Equal(got, plainNear(tag)) {
			t.Errorf("NearTags(%v) = %v, want %v", tag, got, plainNear(tag))
		}
	}
}

// The airlines 7, 70 and 700 have a near number without an airline, which no tag has.
func TestNearTagsLeaveOutAirlineZero(t *testing.T) {
	for _, airline := range []int{7, 70, 700} {
		tag := impl.Tag{Lead: 5, Airline: airline, Serial: 555555}
		for _, near := range impl.NearTags(tag) {
			if near.Airline == 0 {
				t.Errorf("NearTags(%v) has %v", tag, near)
			}
		}
		if got := impl.NearTags(tag); len(got) != 2 {
			t.Errorf("NearTags(%v) = %v, want 2 tags", tag, got)
		}
	}
}

func TestNearTagsDifferBySeven(t *testing.T) {
	for _, tag := range edgeTags() {
		list := impl.NearTags(tag)
		if !ascending(list) {
			t.Errorf("NearTags(%v) = %v is not ascending", tag, list)
		}
		for _, near := range list {
			a, b := impl.FormatTag(tag), impl.FormatTag(near)
			if !impl.TagOk(near) || len(b) != 12 || impl.TagCheck(near) != impl.TagCheck(tag) || !differOnceBySeven(a, b) {
				t.Errorf("NearTags(%v) has %v", tag, near)
			}
		}
	}
}

func differOnceBySeven(a, b string) bool {
	count, by := 0, 0
	for i := range len(a) {
		if a[i] != b[i] {
			count++
			by = int(a[i]) - int(b[i])
		}
	}
	return count == 1 && (by == 7 || by == -7)
}
