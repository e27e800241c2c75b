package tests

import (
	"math"
	"regexp"
	"slices"
	"strconv"
	"strings"
	"testing"

	"loop.example/mailhost/impl"
)

// A second definition of the texts of sets, against which the program is held.
var setPattern = regexp.MustCompile(`\A(\*|[1-9][0-9]?)(:(\*|[1-9][0-9]?))?(,(\*|[1-9][0-9]?)(:(\*|[1-9][0-9]?))?){0,5}\z`)

// setOf returns the set of a text that the pattern has.
func setOf(text string) []impl.Span {
	var list []impl.Span
	for _, part := range strings.Split(strings.ReplaceAll(text, "*", "0"), ",") {
		first, second, two := strings.Cut(part, ":")
		if !two {
			second = first
		}
		low, _ := strconv.Atoi(first)
		high, _ := strconv.Atoi(second)
		list = append(list, impl.Span{Low: low, High: high})
	}
	return list
}

func isSet(list []impl.Span) bool {
	for _, s := range list {
		if min(s.Low, s.High) < 0 || max(s.Low, s.High) > 99 {
			return false
		}
	}
	return 1 <= len(list) && len(list) <= 6
}

// spanHas is a second definition of the numbers of a span, which does not put its ends in order.
func spanHas(s impl.Span, n int, last int) bool {
	low, high := s.Low, s.High
	if low == 0 {
		low = last
	}
	if high == 0 {
		high = last
	}
	return low <= n && n <= high || high <= n && n <= low
}

func numbersOf(list []impl.Span, last int) []int {
	var numbers []int
	last = min(last, 99)
	for n := 1; n <= last && isSet(list); n++ {
		if slices.ContainsFunc(list, func(s impl.Span) bool { return spanHas(s, n, last) }) {
			numbers = append(numbers, n)
		}
	}
	return numbers
}

// lasts are last numbers: none, both limits, and some between them and beyond them.
func lasts() []int {
	return []int{math.MinInt, -100, -1, 0, 1, 2, 3, 4, 5, 6, 7, 8, 10, 42, 97, 98, 99, 100, 101, 1000, math.MaxInt32, math.MaxInt - 1, math.MaxInt}
}

// spans are valid: of one number and of two, forwards and backwards, with a star as no, the first, the second and as both numbers.
func spans() []impl.Span {
	var list []impl.Span
	for _, low := range []int{0, 1, 2, 3, 5, 7, 9, 10, 42, 98, 99} {
		for _, high := range []int{0, 1, 2, 4, 5, 7, 10, 11, 43, 98, 99} {
			list = append(list, impl.Span{Low: low, High: high})
		}
	}
	return list
}

// sets are valid: each span alone, and one to six spans of some mixture.
func sets() [][]impl.Span {
	var list [][]impl.Span
	all := spans()
	for _, s := range all {
		list = append(list, []impl.Span{s})
	}
	for _, text := range []string{"1", "99", "*", "7,3:*", "1,2,3", "3,2,1", "1:5,3:9", "5:1,9:3", "1:9,3:5", "9:1,5:3", "2:4,2:4", "2:4,4:2", "*,*", "*:1,1:*", "*:99,98", "99:*,*:99", "1,1,1,1,1,1", "*,*,*,*,*,*", "1:2,4:5,7:8,10:11,13:14,16:17", "6,5,4,3,2,1"} {
		list = append(list, setOf(text))
	}
	state := 1
	for n := 2; n <= 6; n++ {
		for range 40 {
			var set []impl.Span
			for range n {
				state = (state*75 + 74) % 65537
				set = append(set, all[state%len(all)])
			}
			list = append(list, set)
		}
	}
	return list
}

// notSets are invalid: no span, too many of them, and a number out of the range in each place of a set.
func notSets() [][]impl.Span {
	list := [][]impl.Span{nil, {}, make([]impl.Span, 7), make([]impl.Span, 100), setOf("1,2,3,4,5,6,7"), setOf("1,1,1,1,1,1,1,1")}
	for _, n := range []int{math.MinInt, -99, -2, -1, 100, 101, 1000, 1 << 32, 1<<32 + 1, math.MaxInt} {
		for _, bad := range []impl.Span{{Low: n, High: n}, {Low: n, High: 1}, {Low: 1, High: n}, {Low: n, High: 0}, {Low: 0, High: n}, {Low: 99, High: n}} {
			for size := 1; size <= 6; size++ {
				for place := range size {
					set := slices.Repeat([]impl.Span{{Low: 2, High: 5}}, size)
					set[place] = bad
					list = append(list, set)
				}
			}
		}
	}
	return list
}

// goodSetTexts are the texts of sets, with spans of two equal numbers, too.
func goodSetTexts() []string {
	list := []string{"*", "1", "9", "10", "99", "*:*", "1:1", "99:99", "*:1", "1:*", "*:99", "99:*", "1:99", "99:1", "7,3:*", "5:3,3:5", "1:1,2:2,*:*", "1,2,3,4,5,6", "*,*,*,*,*,*", "99:98,97:96,95:94,93:92,91:90,89:88"}
	for _, set := range sets() {
		var parts []string
		for _, s := range set {
			parts = append(parts, strconv.Itoa(s.Low)+":"+strconv.Itoa(s.High))
		}
		text := strings.Join(parts, ",")
		// Only a 0 that is a whole number becomes a star.
		list = append(list, regexp.MustCompile(`\b0\b`).ReplaceAllString(text, "*"))
	}
	return list
}

// badSetTexts are invalid: numbers out of the range, blanks, signs, and commas, colons and stars in wrong places.
func badSetTexts() []string {
	list := []string{
		"", " ", ",", ":", ",,", "::", ":,", ",:", "-", "+", "0", "00", "000", "01", "001", "010", "09", "0*", "*0", "0:0", "0:1", "1:0", "0,1", "1,0", "1:01", "01:1", "1,01", "*:0", "0:*",
		"100", "101", "999", "1000", "100:1", "1:100", "1,100", "100,1", "*:100", "099", "990", "18446744073709551617", "4294967297", "9223372036854775808", strings.Repeat("9", 1000), "1" + strings.Repeat("0", 1000), strings.Repeat("0", 1000) + "1",
		"-1", "+1", "-1:1", "1:-1", "1:+1", "1,-1", "-*", "+*", "-0", "1-2", "1..2", "1.", "1.5", "1e1", "0x1", "1_0", "a", "A", "1a", "a1", "inf", "٣", "１", "1\x00", "\x001", "\xff", "1\xff", "é",
		" 1", "1 ", "1 2", "1 :2", "1: 2", "1 , 2", "1, 2", "1 ,2", "\t1", "1\n", "\n1", "1\r\n", " *", "* ",
		",1", "1,", "1,,2", ",1,2", "1,2,", "1:", ":1", "1::2", "1:2:", ":1:2", "1:2:3", "1:2:*", "*:*:*", "1:,2", "1,:2", "1:2,", "1:2,:", "*,", ",*", "*:", ":*", "**", "***", "*1", "1*", "*:1*", "*2:1", "1;2", "1.2", "(1)", "[1]", "\"1\"",
		"1,2,3,4,5,6,", "1,2,3,4,5,6,7", "*,*,*,*,*,*,*", "1:2,1:2,1:2,1:2,1:2,1:2,1:2", "1,2,3,4,5,6:", "1,2,3,4,5,6:0",
	}
	for n := 7; n < 20; n++ {
		list = append(list, strings.Repeat("1,", n-1)+"1")
	}
	return append(list, strings.Repeat("1,", 100000)+"1", strings.Repeat(",", 100000), strings.Repeat("*", 100000), strings.Repeat("1:", 100000)+"1")
}

// expectNoSet checks that a text is refused, without a result.
func expectNoSet(t *testing.T, text string) {
	t.Helper()
	if set, ok := impl.SetParse(text); ok || len(set) != 0 {
		t.Errorf("SetParse(%.50q) is %v, %v", text, set, ok)
	}
}

// expectNumbers checks SetNumbers for a last number.
func expectNumbers(t *testing.T, set []impl.Span, last int, want []int) {
	t.Helper()
	if numbers := impl.SetNumbers(set, last); !slices.Equal(numbers, want) {
		t.Errorf("SetNumbers(%v, %d) is %v, not %v", set, last, numbers, want)
	}
}

func TestConstantsOfSets(t *testing.T) {
	if impl.MaxSpans != 6 || impl.MaxNumber != 99 {
		t.Errorf("the limits are %d and %d", impl.MaxSpans, impl.MaxNumber)
	}
}

func TestP29TextsOfParsedSets(t *testing.T) {
	for _, text := range goodSetTexts() {
		set, ok := impl.SetParse(text)
		if !ok || !slices.Equal(set, setOf(text)) {
			t.Errorf("SetParse(%q) is %v, %v", text, set, ok)
		}
		again, ok := impl.SetParse(impl.SetText(set))
		if !ok || !slices.Equal(again, set) {
			t.Errorf("SetParse of SetText of %v is %v, %v", set, again, ok)
		}
	}
	for _, text := range badSetTexts() {
		expectNoSet(t, text)
	}
}

func TestP29AllNumbersInTexts(t *testing.T) {
	for n := range 1200 {
		for _, text := range []string{strconv.Itoa(n), "0" + strconv.Itoa(n), "00" + strconv.Itoa(n)} {
			set, ok := impl.SetParse(text)
			if want := text[0] != '0' && n <= 99; ok != want || ok && !slices.Equal(set, []impl.Span{{Low: n, High: n}}) || !ok && len(set) != 0 {
				t.Errorf("SetParse(%q) is %v, %v", text, set, ok)
			}
		}
	}
}

func TestP29ShortTexts(t *testing.T) {
	for _, text := range shortTexts("*:,019 ", 6) {
		set, ok := impl.SetParse(text)
		if ok != setPattern.MatchString(text) || ok && !slices.Equal(set, setOf(text)) || !ok && len(set) != 0 {
			t.Errorf("SetParse(%q) is %v, %v", text, set, ok)
		}
	}
}

func TestP29OtherBytesInTexts(t *testing.T) {
	for _, text := range []string{"7", "*", "42", "7,3:*", "*:12,5", "1,2,3,4,5,6"} {
		for b := range 256 {
			other := string([]byte{byte(b)})
			list := withPut(text, other)
			for i := range text {
				list = append(list, text[:i]+other+text[i+1:])
			}
			for _, s := range list {
				set, ok := impl.SetParse(s)
				if ok != setPattern.MatchString(s) || ok && !slices.Equal(set, setOf(s)) || !ok && len(set) != 0 {
					t.Errorf("SetParse(%q) is %v, %v", s, set, ok)
				}
			}
		}
	}
}

func TestP30SetsOfTexts(t *testing.T) {
	for _, set := range sets() {
		text := impl.SetText(set)
		if again, ok := impl.SetParse(text); text == "" || !ok || !slices.Equal(again, set) {
			t.Errorf("SetParse(%q) is %v, %v", text, again, ok)
		}
	}
	for _, set := range notSets() {
		if text := impl.SetText(set); text != "" {
			t.Errorf("SetText(%v) is %q", set, text)
		}
	}
	for low := range 100 {
		for high := range 100 {
			want := strconv.Itoa(low) + ":" + strconv.Itoa(high)
			if low == high {
				want = strconv.Itoa(low)
			}
			want = regexp.MustCompile(`\b0\b`).ReplaceAllString(want, "*")
			if text := impl.SetText([]impl.Span{{Low: low, High: high}}); text != want {
				t.Errorf("SetText of the span from %d to %d is %q", low, high, text)
			}
		}
	}
}

func TestP30SpansAreWrittenAsTheyAre(t *testing.T) {
	for text, want := range map[string]string{
		"3:5": "3:5", "5:3": "5:3", "1:*": "1:*", "*:1": "*:1", "99:*": "99:*", "*:99": "*:99", "7:7": "7", "*:*": "*", "99:99,1:1": "99,1",
		"5,3,5": "5,3,5", "1:3,2:4": "1:3,2:4", "*,1": "*,1", "2:1,*:*,4:4": "2:1,*,4", "1:1,2:2,3:3,4:4,5:5,6:6": "1,2,3,4,5,6",
	} {
		if got := impl.SetText(setOf(text)); got != want {
			t.Errorf("SetText of the set of %q is %q", text, got)
		}
	}
}

func TestP31BeginningsOfSets(t *testing.T) {
	for _, set := range sets() {
		for n := 1; n <= len(set); n++ {
			if !impl.SetValid(set[:n]) {
				t.Errorf("SetValid(%v) does not hold", set[:n])
			}
			for _, bad := range []impl.Span{{Low: -1, High: -1}, {Low: -1, High: 1}, {Low: 1, High: -1}, {Low: -1, High: 0}, {Low: 0, High: -1}, {Low: 100, High: 1}, {Low: 1, High: 100}, {Low: math.MinInt, High: math.MaxInt}} {
				if longer := append(slices.Clone(set[:n]), bad); impl.SetValid(longer) {
					t.Errorf("SetValid(%v) holds", longer)
				}
			}
		}
	}
	for _, set := range notSets() {
		if impl.SetValid(set) {
			t.Errorf("SetValid(%v) holds", set)
		}
	}
	for low := -3; low <= 103; low++ {
		for high := -3; high <= 103; high++ {
			set := []impl.Span{{Low: low, High: high}}
			if impl.SetValid(set) != isSet(set) {
				t.Errorf("SetValid(%v) is wrong", set)
			}
		}
	}
}

func TestP32NumberOfSpans(t *testing.T) {
	for _, set := range sets() {
		for n := len(set); n <= 14; n++ {
			if impl.SetValid(set) != (len(set) <= impl.MaxSpans) {
				t.Errorf("SetValid of %d spans is wrong", len(set))
			}
			set = append(slices.Clone(set), impl.Span{Low: 1, High: 1})
		}
	}
	if impl.SetValid(nil) || impl.SetValid([]impl.Span{}) {
		t.Error("no span is a set")
	}
}

func TestP33StarsBehindTexts(t *testing.T) {
	for _, text := range goodSetTexts() {
		set, _ := impl.SetParse(text)
		if len(set) == impl.MaxSpans {
			expectNoSet(t, text+",*")
			continue
		}
		want := append(slices.Clone(set), impl.Span{})
		if longer, ok := impl.SetParse(text + ",*"); !ok || !slices.Equal(longer, want) {
			t.Errorf("SetParse(%q) is %v, %v", text+",*", longer, ok)
		}
	}
}

func TestP34SignsAheadOfTexts(t *testing.T) {
	for _, text := range goodSetTexts() {
		for _, front := range []string{"0", " ", ",", ":", "00", "-", "+", "\x00", "0,", "0:"} {
			expectNoSet(t, front+text)
		}
		for _, back := range []string{" ", ",", ":", ",0", ":0", ", 1", "\n"} {
			expectNoSet(t, text+back)
		}
	}
}

func TestP35RangeOfNumbers(t *testing.T) {
	for _, set := range sets() {
		for _, last := range lasts() {
			numbers := impl.SetNumbers(set, last)
			for i, n := range numbers {
				if n < 1 || n > last || n > impl.MaxNumber || i > 0 && numbers[i-1] >= n {
					t.Errorf("SetNumbers(%v, %d) is %v", set, last, numbers)
					break
				}
			}
			expectNumbers(t, set, last, numbersOf(set, last))
		}
	}
	for _, set := range notSets() {
		for _, last := range lasts() {
			expectNumbers(t, set, last, nil)
		}
	}
}

func TestP35NumbersOfAllSpans(t *testing.T) {
	for low := range 100 {
		for high := range 100 {
			set := []impl.Span{{Low: low, High: high}}
			for _, last := range []int{-1, 0, 1, 2, low - 1, low, low + 1, high - 1, high, high + 1, 98, 99, 100} {
				expectNumbers(t, set, last, numbersOf(set, last))
			}
		}
	}
}

func TestP35NumbersOfNamedSets(t *testing.T) {
	for _, c := range []struct {
		text string
		last int
		want []int
	}{
		{"7,3:*", 5, []int{3, 4, 5}}, {"7,3:*", 8, []int{3, 4, 5, 6, 7, 8}}, {"7,3:*", 2, []int{2}}, {"7,3:*", 3, []int{3}},
		{"3:5", 9, []int{3, 4, 5}}, {"3:5", 4, []int{3, 4}}, {"3:5", 3, []int{3}}, {"3:5", 2, nil}, {"3:5", 0, nil}, {"3:5", -1, nil},
		{"5:3", 9, []int{3, 4, 5}}, {"5:3", 4, []int{3, 4}}, {"5:3", 3, []int{3}}, {"5:3", 2, nil}, {"5:3", 0, nil}, {"5:3", -1, nil},
		{"9:*", 7, []int{7}}, {"*:9", 7, []int{7}}, {"6:*", 7, []int{6, 7}}, {"*:6", 7, []int{6, 7}}, {"7:*", 7, []int{7}}, {"99:*", 1, []int{1}}, {"*:1", 3, []int{1, 2, 3}},
		{"98:*", 150, []int{98, 99}}, {"*:98", 150, []int{98, 99}}, {"99:*", 100, []int{99}}, {"*", 150, []int{99}}, {"99", 98, nil}, {"99", 99, []int{99}},
		{"2,2,2", 5, []int{2}}, {"4:2,3:5", 9, []int{2, 3, 4, 5}}, {"9,1,5", 9, []int{1, 5, 9}}, {"2,1", 1, []int{1}}, {"1:2,*:8", 5, []int{1, 2, 5}},
	} {
		expectNumbers(t, setOf(c.text), c.last, c.want)
	}
}

func TestP36NumbersOfExchangedSpans(t *testing.T) {
	for _, set := range sets() {
		other := slices.Clone(set)
		for i, s := range set {
			other[i] = impl.Span{Low: s.High, High: s.Low}
		}
		for _, last := range lasts() {
			expectNumbers(t, other, last, impl.SetNumbers(set, last))
		}
	}
}

func TestP37NumbersOfSingleSpans(t *testing.T) {
	for _, set := range sets() {
		for _, last := range lasts() {
			var all []int
			for _, s := range set {
				all = append(all, impl.SetNumbers([]impl.Span{s}, last)...)
			}
			slices.Sort(all)
			expectNumbers(t, set, last, slices.Compact(all))
		}
	}
}

func TestP38NumbersOfStar(t *testing.T) {
	for _, last := range append(lasts(), numbersOf(setOf("1:*"), 99)...) {
		var want []int
		if last >= 1 {
			want = []int{min(last, impl.MaxNumber)}
		}
		expectNumbers(t, []impl.Span{{Low: 0, High: 0}}, last, want)
	}
}

func TestP39NumbersOfAll(t *testing.T) {
	for last := -2; last <= 250; last++ {
		var want []int
		for n := 1; n <= min(last, impl.MaxNumber); n++ {
			want = append(want, n)
		}
		expectNumbers(t, []impl.Span{{Low: 1, High: 0}}, last, want)
		expectNumbers(t, []impl.Span{{Low: 0, High: 1}}, last, want)
	}
	if n := len(impl.SetNumbers([]impl.Span{{Low: 1, High: 0}}, math.MaxInt)); n != impl.MaxNumber {
		t.Errorf("there are %d numbers", n)
	}
}

func TestP40NumbersOfReverseOrder(t *testing.T) {
	for _, set := range sets() {
		other := slices.Clone(set)
		slices.Reverse(other)
		for _, last := range lasts() {
			expectNumbers(t, other, last, impl.SetNumbers(set, last))
		}
	}
}

func TestP41NumbersOfRepeatedSpans(t *testing.T) {
	for _, set := range sets() {
		if len(set) == impl.MaxSpans {
			continue
		}
		for i, s := range set {
			for _, longer := range [][]impl.Span{append(slices.Clone(set), s), slices.Insert(slices.Clone(set), i, s), slices.Insert(slices.Clone(set), 0, s)} {
				for _, last := range lasts() {
					expectNumbers(t, longer, last, impl.SetNumbers(set, last))
				}
			}
		}
	}
}

func TestSetsKeepTheirMemory(t *testing.T) {
	set := setOf("7,5:3,*:2")
	before := slices.Clone(set)
	numbers := impl.SetNumbers(set, 9)
	want := slices.Clone(numbers)
	impl.SetText(set)
	impl.SetValid(set)
	clear(numbers[:cap(numbers)])
	if !slices.Equal(set, before) {
		t.Errorf("the set became %v", set)
	}
	expectNumbers(t, set, 9, want)
	first, _ := impl.SetParse("7,5:3,*:2")
	second, _ := impl.SetParse("7,5:3,*:2")
	clear(first[:cap(first)])
	if !slices.Equal(second, before) {
		t.Errorf("the second set became %v", second)
	}
}
