package impl

import (
	"cmp"
	"slices"
	"strconv"
	"strings"
)

const (
	MaxInputLen      = 20000
	MaxUint          = 1000000000
	MaxLineLen       = 600
	MaxFieldsPerLine = 24
	MaxSerial        = 999999
	MaxUnknown       = 3
)

const (
	hexDigits = "0123456789abcdef"
	tagDigits = 10
	tagLen    = tagDigits + 2
)

type Tag struct {
	Lead    int
	Airline int
	Serial  int
}

// EncodeHex returns the lowercase hexadecimal encoding of s, two digits per byte with the high
// half first, and true. It returns "" and false if s is longer than MaxInputLen bytes. Example:
// EncodeHex("az") returns "617a" and true.
func EncodeHex(s string) (string, bool) {
	if len(s) > MaxInputLen {
		return "", false
	}
	out := make([]byte, 0, 2*len(s))
	for i := range len(s) {
		out = append(out, hexDigits[s[i]>>4], hexDigits[s[i]&15])
	}
	return string(out), true
}

// DecodeHex returns the string t for which EncodeHex(t) is s, and true. It returns "" and false
// if there is no such string (an odd length, a character other than 0-9 and a-f, or a result
// longer than MaxInputLen).
func DecodeHex(s string) (string, bool) {
	if len(s)%2 != 0 || len(s) > 2*MaxInputLen {
		return "", false
	}
	out := make([]byte, 0, len(s)/2)
	for i := 0; i < len(s); i += 2 {
		high := strings.IndexByte(hexDigits, s[i])
		low := strings.IndexByte(hexDigits, s[i+1])
		if high < 0 || low < 0 {
			return "", false
		}
		out = append(out, byte(high<<4|low))
	}
	return string(out), true
}

// FormatInt returns n in decimal without leading zeros, with a leading `-` for a negative number.
// It is defined for every int; FormatInt(0) is "0".
func FormatInt(n int) string { return strconv.Itoa(n) }

// ParseUint returns the number n in the range 0 to MaxUint for which FormatInt(n) is s, and true.
// It returns 0 and false if there is none. Example: ParseUint("01") returns 0 and false.
func ParseUint(s string) (int, bool) {
	n, err := strconv.Atoi(s)
	// Atoi also reads signs and leading zeros, which FormatInt does not write.
	if err != nil || !within(n, 0, MaxUint) || FormatInt(n) != s {
		return 0, false
	}
	return n, true
}

// SplitFields returns the fields of a line in order, and true. Fields are maximal runs of bytes
// other than the space (byte 32); leading and trailing spaces are ignored. SplitFields returns
// nil and false if the line is longer than MaxLineLen bytes, contains a byte outside the range 32
// to 126, or has more than MaxFieldsPerLine fields. An empty line and a line of spaces have no
// fields.
func SplitFields(line string) ([]string, bool) {
	if len(line) > MaxLineLen {
		return nil, false
	}
	fields := []string{}
	start, at := 0, 0
scan:
	for at < len(line) {
		switch c := line[at]; {
		case c < ' ' || c > '~':
			break scan
		case c == ' ':
			fields = appendField(fields, line[start:at])
			start = at + 1
		}
		at++
	}
	if at < len(line) {
		return nil, false
	}
	fields = appendField(fields, line[start:])
	if len(fields) > MaxFieldsPerLine {
		return nil, false
	}
	return fields, true
}

// appendField clones the field because a part of the line would share the line's memory; between
// two spaces there is no field.
func appendField(fields []string, field string) []string {
	if field == "" {
		return fields
	}
	return append(fields, strings.Clone(field))
}

// Clamp returns n clamped to the range low to high. If high is less than low, it returns low.
func Clamp(n int, low int, high int) int { return max(low, min(n, high)) }

func within(n int, low int, high int) bool { return low <= n && n <= high }

// TagOk reports whether Lead is in the range 0 to 9, Airline in the range 1 to 999, and Serial in
// the range 0 to MaxSerial.
func TagOk(t Tag) bool {
	return within(t.Lead, 0, 9) && within(t.Airline, 1, 999) && within(t.Serial, 0, MaxSerial)
}

// TagNumber returns (Lead*1000 + Airline)*1000000 + Serial; it returns -1 if t is not valid.
func TagNumber(t Tag) int {
	if !TagOk(t) {
		return -1
	}
	return (t.Lead*1000+t.Airline)*1000000 + t.Serial
}

func tagNumbered(n int) Tag {
	return Tag{Lead: n / 1000000000, Airline: n / 1000000 % 1000, Serial: n % 1000000}
}

// TagCheck returns TagNumber(t) modulo 7; it returns -1 if t is not valid.
func TagCheck(t Tag) int {
	if !TagOk(t) {
		return -1
	}
	return TagNumber(t) % 7
}

// FormatTag returns the text of a tag, which has 12 bytes: the number of the tag in decimal with
// leading zeros up to ten digits, a "-", and the check as a digit. It returns "" if t is not
// valid. Example: FormatTag(Tag{0, 220, 123456}) returns "0220123456-0".
func FormatTag(t Tag) string {
	if !TagOk(t) {
		return ""
	}
	number := FormatInt(TagNumber(t))
	zeros := strings.Repeat("0", tagDigits-len(number))
	return zeros + number + "-" + FormatInt(TagCheck(t))
}

// ParseTag returns the valid tag whose text is s, and true; a zero tag and false if there is
// none.
func ParseTag(s string) (Tag, bool) {
	if len(s) != tagLen {
		return Tag{}, false
	}
	n, err := strconv.Atoi(s[:tagDigits])
	t := tagNumbered(n)
	// The text of t is s only if the digits, the "-" and the check of s are as they must be.
	if err != nil || FormatTag(t) != s {
		return Tag{}, false
	}
	return t, true
}

// Candidates returns all valid tags whose text can be made of s by replacing each "?" in it by a
// decimal digit, with ascending numbers, and true. It returns nil and false if s does not have 12
// bytes, byte 10 is not a "-", any other byte is neither a decimal digit nor a "?", or more than
// MaxUnknown bytes are a "?". (There may be no such tag: then the list is empty.)
func Candidates(s string) ([]Tag, bool) {
	places, ok := unknownPlaces(s)
	if !ok {
		return nil, false
	}
	list := []Tag{}
	text := []byte(s)
	// Earlier places take the smaller digits first, so the numbers come out ascending.
	var fill func(k int)
	fill = func(k int) {
		if k == len(places) {
			if t, ok := ParseTag(string(text)); ok {
				list = append(list, t)
			}
			return
		}
		for digit := byte('0'); digit <= '9'; digit++ {
			text[places[k]] = digit
			fill(k + 1)
		}
	}
	fill(0)
	return list, true
}

// unknownPlaces returns the indexes of each "?" in s, and whether s has the form that Candidates
// requires.
func unknownPlaces(s string) ([]int, bool) {
	if len(s) != tagLen {
		return nil, false
	}
	places := []int{}
	// A character of several bytes is refused where it begins, so none can hide byte 10.
	for i, c := range s {
		switch {
		case i == tagDigits:
			if c != '-' {
				return nil, false
			}
		case c == '?':
			places = append(places, i)
		case c < '0' || c > '9':
			return nil, false
		}
	}
	if len(places) > MaxUnknown {
		return nil, false
	}
	return places, true
}

// RepairTag returns the only tag of Candidates(s), and true; a zero tag and false if Candidates
// is false or does not return exactly one tag.
func RepairTag(s string) (Tag, bool) {
	list, ok := Candidates(s)
	if !ok || len(list) != 1 {
		return Tag{}, false
	}
	return list[0], true
}

// NearTags returns, with ascending numbers, all valid tags other than t whose numbers differ from
// that of t in exactly one of the ten digits, and whose check is that of t. It returns nil if t
// is not valid.
func NearTags(t Tag) []Tag {
	if !TagOk(t) {
		return nil
	}
	list := []Tag{}
	text := FormatTag(t)
	for i := range tagDigits {
		tags, _ := Candidates(text[:i] + "?" + text[i+1:])
		for _, near := range tags {
			if near != t {
				list = append(list, near)
			}
		}
	}
	slices.SortFunc(list, func(a, b Tag) int { return cmp.Compare(TagNumber(a), TagNumber(b)) })
	return list
}
