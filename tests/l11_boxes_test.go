package tests

import (
	"math"
	"slices"
	"strings"
	"testing"

	"loop.example/mailhost/impl"
)

// A second definition of mailboxes, against which the program is held.

func isMail(m impl.Mail) bool {
	return 1 <= m.Uid && m.Uid <= 99 && isFlags(m.Flags) && len(m.Text) <= 20
}

// isAscending holds each number against all those ahead of it.
func isAscending(list []int) bool {
	for i, n := range list {
		if slices.ContainsFunc(list[:i], func(before int) bool { return before >= n }) {
			return false
		}
	}
	return true
}

func isBox(b impl.Box) bool {
	return len(b.Mail) <= 10 && !slices.ContainsFunc(b.Mail, func(m impl.Mail) bool { return !isMail(m) || m.Uid >= b.Next }) &&
		isAscending(uidsOf(b)) && 1 <= b.Next && b.Next <= 100
}

func arePlaces(b impl.Box, places []int) bool {
	return isAscending(places) && !slices.ContainsFunc(places, func(n int) bool { return n < 1 || n > len(b.Mail) })
}

func uidsOf(b impl.Box) []int {
	var list []int
	for _, m := range b.Mail {
		list = append(list, m.Uid)
	}
	return list
}

func isDeleted(m impl.Mail) bool {
	return hasFlag(m.Flags, 8)
}

func boxClone(b impl.Box) impl.Box {
	return impl.Box{Next: b.Next, Mail: slices.Clone(b.Mail)}
}

func sameBox(a impl.Box, b impl.Box) bool {
	return a.Next == b.Next && slices.Equal(a.Mail, b.Mail)
}

func appended(b impl.Box, flags int, text string) (impl.Box, bool) {
	if !isBox(b) || !isFlags(flags) || len(text) > 20 {
		return impl.Box{}, false
	}
	if len(b.Mail) == 10 || b.Next == 100 {
		return b, false
	}
	m := impl.Mail{Uid: b.Next, Flags: flags, Text: text}
	return impl.Box{Next: b.Next + 1, Mail: append(slices.Clone(b.Mail), m)}, true
}

func flagged(b impl.Box, places []int, how int, flags int) (impl.Box, bool) {
	if !isBox(b) || !arePlaces(b, places) || changed(0, how, flags) == -1 {
		return impl.Box{}, false
	}
	x := boxClone(b)
	for i, m := range b.Mail {
		if slices.Contains(places, i+1) {
			x.Mail[i].Flags = changed(m.Flags, how, flags)
		}
	}
	return x, true
}

// expunged gives each removed message the number of messages ahead of it that stay, plus 1.
func expunged(b impl.Box) (impl.Box, []int) {
	if !isBox(b) {
		return impl.Box{}, nil
	}
	x := impl.Box{Next: b.Next}
	var places []int
	for _, m := range b.Mail {
		if isDeleted(m) {
			places = append(places, len(x.Mail)+1)
		} else {
			x.Mail = append(x.Mail, m)
		}
	}
	return x, places
}

// copied asks ahead of all changes whether there is space, and numbers, for all messages.
func copied(b impl.Box, places []int, to impl.Box) (impl.Box, bool) {
	if !isBox(b) || !isBox(to) || !arePlaces(b, places) {
		return impl.Box{}, false
	}
	if len(to.Mail)+len(places) > 10 || to.Next+len(places) > 100 {
		return to, false
	}
	x := boxClone(to)
	for i, place := range places {
		m := b.Mail[place-1]
		x.Mail = append(x.Mail, impl.Mail{Uid: to.Next + i, Flags: m.Flags, Text: m.Text})
	}
	x.Next += len(places)
	return x, true
}

func placesOf(b impl.Box, uids []int) []int {
	var list []int
	for i, m := range b.Mail {
		if isBox(b) && slices.Contains(uids, m.Uid) {
			list = append(list, i+1)
		}
	}
	return list
}

func sizeOf(b impl.Box) int {
	if !isBox(b) {
		return -1
	}
	var all strings.Builder
	for _, m := range b.Mail {
		all.WriteString(m.Text)
	}
	return all.Len()
}

// mailTexts are valid: of no bytes and of MaxText bytes, in fewer letters than bytes, too, and of bytes that are no text.
func mailTexts() []string {
	return []string{"", "a", "hello", "\x00", "\xff\xfe", "one two\n", "(Deleted)", strings.Repeat("x", 19), strings.Repeat("y", 20), strings.Repeat("é", 10), strings.Repeat("\x00", 20), strings.Repeat("世", 6) + "ab"}
}

// longTexts are invalid; the second has fewer letters than MaxText.
func longTexts() []string {
	return []string{strings.Repeat("x", 21), strings.Repeat("世", 7), strings.Repeat("\x00", 21), strings.Repeat("x", 22), strings.Repeat("y", 276)}
}

// boxWith returns a mailbox with messages of the given numbers, all with different flags and texts.
func boxWith(next int, uids ...int) impl.Box {
	b := impl.Box{Next: next}
	texts := mailTexts()
	for i, uid := range uids {
		b.Mail = append(b.Mail, impl.Mail{Uid: uid, Flags: uid * 11 % 32, Text: texts[(uid+3*i)%len(texts)]})
	}
	return b
}

// uidLists are the numbers of messages in mailboxes: none, one, several with gaps and without, MaxMail and one less, and both limits.
func uidLists() [][]int {
	return [][]int{
		nil, {1}, {2}, {42}, {98}, {99}, {1, 2}, {1, 99}, {98, 99}, {5, 50}, {1, 2, 3}, {3, 7, 20}, {97, 98, 99}, {1, 50, 99}, {4, 5, 9, 10},
		{2, 3, 30, 31, 80}, {1, 3, 5, 7, 9, 11, 13}, {11, 22, 33, 44, 55, 66, 77, 88}, {1, 2, 3, 4, 5, 6, 7, 8, 9}, {91, 92, 93, 94, 95, 96, 97, 98, 99},
		{1, 2, 3, 4, 5, 6, 7, 8, 9, 10}, {90, 91, 92, 93, 94, 95, 96, 97, 98, 99}, {1, 12, 23, 34, 45, 56, 67, 78, 89, 99}, {2, 4, 8, 16, 32, 64, 65, 66, 67, 96},
	}
}

// boxes are valid: each with the least and the greatest possible Next, and with some between them.
func boxes() []impl.Box {
	list := []impl.Box{{Next: 1}, {Next: 1, Mail: []impl.Mail{}}, {Next: 100, Mail: []impl.Mail{}}}
	for _, uids := range uidLists() {
		last := 0
		if len(uids) > 0 {
			last = uids[len(uids)-1]
		}
		for _, next := range []int{last + 1, last + 2, 50, 91, 95, 98, 99, 100} {
			if last < next && next <= 100 {
				list = append(list, boxWith(next, uids...))
			}
		}
	}
	return append(list, deletedBoxes(5)...)
}

// deletedBoxes have count messages each; of these, each choice is deleted in one of the mailboxes. All have other flags, too.
func deletedBoxes(count int) []impl.Box {
	var list []impl.Box
	for choice := range 1 << count {
		b := boxWith(90, []int{3, 4, 7, 20, 21, 40, 55, 56, 80, 89}[:count]...)
		for i := range b.Mail {
			b.Mail[i].Flags = (choice + 3*i) % 8
			if hasFlag(choice, 1<<i) {
				b.Mail[i].Flags += 8
			}
			b.Mail[i].Flags += (choice + i) % 2 * 16
		}
		list = append(list, b)
	}
	return list
}

// notNexts are invalid for the mailbox: the numbers of its messages, those ahead of them, and those out of the range.
func notNexts(b impl.Box) []int {
	list := []int{math.MinInt, -100, -1, 0, 101, 102, 1000, 1<<32 + 50, math.MaxInt - 1, math.MaxInt}
	return append(list, uidsOf(b)...)
}

// notMails are invalid beside others that have smaller numbers.
func notMails(m impl.Mail) []impl.Mail {
	var list []impl.Mail
	for _, uid := range []int{math.MinInt, -99, -1, 0, 100, 101, 1<<32 + 50, math.MaxInt} {
		list = append(list, impl.Mail{Uid: uid, Flags: m.Flags, Text: m.Text})
	}
	for _, flags := range []int{math.MinInt, -1, 32, 40, 63, 1 << 32, math.MaxInt} {
		list = append(list, impl.Mail{Uid: m.Uid, Flags: flags, Text: m.Text})
	}
	for _, text := range longTexts() {
		list = append(list, impl.Mail{Uid: m.Uid, Flags: m.Flags, Text: text})
	}
	return list
}

// notBoxes are invalid, each by one fault only as far as that is possible.
func notBoxes() []impl.Box {
	many := boxWith(100, 1, 2, 3, 4, 5, 6, 7, 8, 9, 10, 11)
	list := []impl.Box{
		{}, {Mail: []impl.Mail{}}, many, boxWith(100, slices.Concat(uidsOf(many), []int{12, 13, 14, 15, 16})...),
		boxWith(100, 2, 1), boxWith(100, 1, 3, 2), boxWith(100, 3, 1, 2), boxWith(100, 3, 2, 1), boxWith(100, 1, 2, 3, 5, 4, 6, 7), boxWith(100, 10, 9, 8, 7, 6, 5, 4, 3, 2, 1),
		boxWith(100, 1, 1), boxWith(100, 99, 99), boxWith(100, 1, 2, 2, 3), boxWith(100, 1, 2, 1), boxWith(100, 1, 2, 2, 2), boxWith(3, 1, 5, 2), boxWith(3, 5, 1, 2),
	}
	for _, uids := range uidLists() {
		b := boxWith(100, uids...)
		for _, next := range notNexts(b) {
			list = append(list, boxWith(next, uids...))
		}
		for i, m := range b.Mail {
			for _, bad := range notMails(m) {
				x := boxClone(b)
				x.Mail[i] = bad
				list = append(list, x)
			}
		}
	}
	return list
}

// choices returns all lists of ascending places of messages.
func choices(b impl.Box) [][]int {
	var list [][]int
	for choice := range 1 << len(b.Mail) {
		var places []int
		for i := range b.Mail {
			if hasFlag(choice, 1<<i) {
				places = append(places, i+1)
			}
		}
		list = append(list, places)
	}
	return list
}

// fewChoices are none, each single place, neighbours, the first and the last, every second, and all.
func fewChoices(b impl.Box) [][]int {
	all := choices(b)
	list := [][]int{nil, {}, all[len(all)-1]}
	n := len(b.Mail)
	for i := 1; i <= n; i++ {
		list = append(list, []int{i})
	}
	for i := 2; i <= n; i++ {
		list = append(list, []int{i - 1, i}, all[len(all)-1][:i], all[len(all)-1][i-1:])
	}
	if n > 2 {
		list = append(list, []int{1, n}, []int{2, n}, []int{1, n - 1})
	}
	return append(list, all[len(all)/3], all[len(all)*2/3])
}

// notPlaces are invalid for the mailbox: 0, negative, past the end, repeated and descending, alone and beside valid ones.
func notPlaces(b impl.Box) [][]int {
	n := len(b.Mail)
	bad := []int{math.MinInt, -n - 1, -n, -1, 0, n + 1, n + 2, 100, 1<<32 + 1, math.MaxInt}
	var list [][]int
	for _, x := range bad {
		list = append(list, []int{x}, []int{x, x})
		for _, places := range fewChoices(b) {
			list = append(list, append(slices.Clone(places), x), append([]int{x}, places...))
		}
	}
	for _, places := range fewChoices(b) {
		for i, place := range places {
			list = append(list, slices.Insert(slices.Clone(places), i, place))
		}
		if len(places) > 1 {
			list = append(list, append(slices.Clone(places), places[0]), append([]int{places[len(places)-1]}, places...))
			other := slices.Clone(places)
			slices.Reverse(other)
			list = append(list, other)
		}
	}
	return list
}

func expectBox(t *testing.T, what string, got impl.Box, ok bool, want impl.Box, valid bool) {
	t.Helper()
	if ok != valid || !sameBox(got, want) {
		t.Errorf("%s is %v, %v, not %v, %v", what, got, ok, want, valid)
	}
}

func expectAppended(t *testing.T, b impl.Box, flags int, text string) (impl.Box, bool) {
	t.Helper()
	got, ok := impl.BoxAppend(b, flags, text)
	want, valid := appended(b, flags, text)
	if ok != valid || !sameBox(got, want) {
		t.Errorf("BoxAppend(%v, %d, %.50q) is %v, %v", b, flags, text, got, ok)
	}
	return got, ok
}

func expectFlagged(t *testing.T, b impl.Box, places []int, how int, flags int) (impl.Box, bool) {
	t.Helper()
	got, ok := impl.BoxFlags(b, places, how, flags)
	want, valid := flagged(b, places, how, flags)
	if ok != valid || !sameBox(got, want) {
		t.Errorf("BoxFlags(%v, %v, %d, %d) is %v, %v", b, places, how, flags, got, ok)
	}
	return got, ok
}

func expectExpunged(t *testing.T, b impl.Box) (impl.Box, []int) {
	t.Helper()
	got, gone := impl.BoxExpunge(b)
	want, places := expunged(b)
	if !sameBox(got, want) || !slices.Equal(gone, places) {
		t.Errorf("BoxExpunge(%v) is %v, %v", b, got, gone)
	}
	return got, gone
}

func expectCopied(t *testing.T, b impl.Box, places []int, to impl.Box) (impl.Box, bool) {
	t.Helper()
	got, ok := impl.BoxCopy(b, places, to)
	want, valid := copied(b, places, to)
	if ok != valid || !sameBox(got, want) {
		t.Errorf("BoxCopy(%v, %v, %v) is %v, %v", b, places, to, got, ok)
	}
	return got, ok
}

func expectPlaces(t *testing.T, b impl.Box, uids []int) []int {
	t.Helper()
	places := impl.BoxUids(b, uids)
	if !slices.Equal(places, placesOf(b, uids)) {
		t.Errorf("BoxUids(%v, %v) is %v", b, uids, places)
	}
	return places
}

func TestConstantsOfBoxes(t *testing.T) {
	if impl.MaxMail != 10 || impl.MaxText != 20 || impl.MaxUid != 99 {
		t.Errorf("the limits are %d, %d and %d", impl.MaxMail, impl.MaxText, impl.MaxUid)
	}
}

func TestP55LastMessageAppended(t *testing.T) {
	for _, b := range boxes() {
		for flags := range 32 {
			for _, text := range mailTexts() {
				x, ok := expectAppended(t, b, flags, text)
				if !ok {
					continue
				}
				want := impl.Mail{Uid: b.Next, Flags: flags, Text: text}
				if n := len(x.Mail); n == 0 || x.Mail[n-1] != want || x.Next != b.Next+1 || !impl.BoxValid(x) {
					t.Errorf("BoxAppend(%v, %d, %q) is %v", b, flags, text, x)
				}
			}
		}
	}
}

func TestP55FlagsAndTextsThatAreNone(t *testing.T) {
	texts := longTexts()
	for _, b := range boxes() {
		for _, flags := range notFlags() {
			expectAppended(t, b, flags, "x")
			expectAppended(t, b, flags, texts[0])
		}
		for _, text := range texts {
			expectAppended(t, b, 0, text)
			expectAppended(t, b, 31, text)
		}
	}
}

func TestP56EarlierMessages(t *testing.T) {
	for _, b := range boxes() {
		x, ok := impl.BoxAppend(b, impl.FlagDraft, "new")
		if ok && (len(x.Mail) != len(b.Mail)+1 || !slices.Equal(x.Mail[:len(b.Mail)], b.Mail)) {
			t.Errorf("BoxAppend(%v) is %v", b, x)
		}
	}
}

func TestP57FullMailboxes(t *testing.T) {
	refused := 0
	for _, b := range boxes() {
		x, ok := expectAppended(t, b, 1, "new")
		if full := len(b.Mail) == impl.MaxMail || b.Next > impl.MaxUid; ok == full || full && !sameBox(x, b) {
			t.Errorf("BoxAppend(%v) is %v, %v", b, x, ok)
		}
		if !ok {
			refused++
		}
	}
	if refused == 0 {
		t.Error("no mailbox is full")
	}
}

func TestP57AppendsUntilFull(t *testing.T) {
	for _, next := range []int{1, 42, 90, 91, 95, 99, 100} {
		b := impl.Box{Next: next}
		room := min(10, 100-next)
		for i := range room + 3 {
			x, ok := expectAppended(t, b, i, "text")
			if ok != (i < room) {
				t.Errorf("append %d from %d on is %v", i, next, ok)
			}
			b = x
		}
		if len(b.Mail) != room || b.Next != next+room || !impl.BoxValid(b) {
			t.Errorf("the mailbox filled from %d on is %v", next, b)
		}
	}
}

func TestP57InvalidAheadOfFull(t *testing.T) {
	for _, b := range []impl.Box{boxWith(11, 1, 2, 3, 4, 5, 6, 7, 8, 9, 10), boxWith(100, 99), {Next: 100}} {
		for _, flags := range notFlags() {
			got, ok := impl.BoxAppend(b, flags, "")
			expectBox(t, "BoxAppend of no flags to a full mailbox", got, ok, impl.Box{}, false)
		}
		for _, text := range longTexts() {
			got, ok := impl.BoxAppend(b, 0, text)
			expectBox(t, "BoxAppend of a long text to a full mailbox", got, ok, impl.Box{}, false)
		}
		got, ok := impl.BoxAppend(b, 0, "")
		expectBox(t, "BoxAppend to a full mailbox", got, ok, b, false)
	}
}

func TestP58WithoutAMessageAndWithOneTwice(t *testing.T) {
	for _, b := range boxes() {
		if !impl.BoxValid(b) {
			t.Errorf("BoxValid(%v) does not hold", b)
		}
		for i, m := range b.Mail {
			x := impl.Box{Next: b.Next, Mail: slices.Delete(slices.Clone(b.Mail), i, i+1)}
			if !impl.BoxValid(x) {
				t.Errorf("BoxValid(%v) does not hold", x)
			}
			for j := range len(b.Mail) + 1 {
				x = impl.Box{Next: b.Next, Mail: slices.Insert(slices.Clone(b.Mail), j, m)}
				if impl.BoxValid(x) {
					t.Errorf("BoxValid(%v) holds", x)
				}
			}
		}
	}
	for _, b := range notBoxes() {
		if impl.BoxValid(b) {
			t.Errorf("BoxValid(%v) holds", b)
		}
	}
}

func TestP58NumbersFlagsAndTextsOfMessages(t *testing.T) {
	for uid := -3; uid <= 103; uid++ {
		for flags := -3; flags <= 35; flags++ {
			b := impl.Box{Next: 100, Mail: []impl.Mail{{Uid: uid, Flags: flags}}}
			if impl.BoxValid(b) != isBox(b) {
				t.Errorf("BoxValid(%v) is wrong", b)
			}
		}
	}
	for _, flags := range anyNumbers() {
		b := impl.Box{Next: 3, Mail: []impl.Mail{{Uid: 1}, {Uid: 2, Flags: flags}}}
		if impl.BoxValid(b) != isFlags(flags) {
			t.Errorf("BoxValid(%v) is wrong", b)
		}
	}
	for n := range 300 {
		b := impl.Box{Next: 2, Mail: []impl.Mail{{Uid: 1, Text: strings.Repeat("\xff", n)}}}
		if impl.BoxValid(b) != (n <= impl.MaxText) {
			t.Errorf("BoxValid with a text of %d bytes is wrong", n)
		}
	}
}

func TestP58NumberOfMessages(t *testing.T) {
	var uids []int
	for n := 1; n <= 40; n++ {
		uids = append(uids, n)
		if impl.BoxValid(boxWith(n+1, uids...)) != (n <= impl.MaxMail) || impl.BoxValid(boxWith(100, uids...)) != (n <= impl.MaxMail) {
			t.Errorf("BoxValid of %d messages is wrong", n)
		}
	}
}

func TestP59NextOfMailboxes(t *testing.T) {
	for _, uids := range uidLists() {
		b := boxWith(100, uids...)
		for next := -3; next <= 103; next++ {
			b.Next = next
			if impl.BoxValid(b) != isBox(b) || slices.Contains(uids, next) && impl.BoxValid(b) {
				t.Errorf("BoxValid(%v) is wrong", b)
			}
		}
		b.Next = impl.MaxUid + 1
		if !impl.BoxValid(b) {
			t.Errorf("BoxValid(%v) does not hold", b)
		}
		for _, next := range notNexts(b) {
			b.Next = next
			if impl.BoxValid(b) {
				t.Errorf("BoxValid(%v) holds", b)
			}
		}
	}
}

func TestP60NumbersAscend(t *testing.T) {
	for a := -1; a <= 5; a++ {
		for b := -1; b <= 5; b++ {
			for c := -1; c <= 5; c++ {
				for next := -1; next <= 6; next++ {
					x := boxWith(next)
					x.Mail = []impl.Mail{{Uid: a}, {Uid: b}, {Uid: c}}
					if want := 1 <= a && a < b && b < c && c < next; impl.BoxValid(x) != want {
						t.Errorf("BoxValid(%v) is %v", x, !want)
					}
				}
			}
		}
	}
}

func TestP61FlagsOfPlaces(t *testing.T) {
	for _, b := range boxes() {
		for _, places := range fewChoices(b) {
			for how := -1; how <= 1; how++ {
				for _, flags := range []int{0, 1, 5, 8, 16, 22, 31} {
					if x, ok := expectFlagged(t, b, places, how, flags); !ok || !impl.BoxValid(x) || x.Next != b.Next {
						t.Errorf("BoxFlags(%v, %v, %d, %d) is %v, %v", b, places, how, flags, x, ok)
					}
				}
			}
		}
	}
}

func TestP61AllPlacesAndFlags(t *testing.T) {
	for _, count := range []int{2, 4, 10} {
		b := deletedBoxes(count)[1]
		for i, places := range choices(b) {
			for how := -1; how <= 1; how++ {
				expectFlagged(t, b, places, how, i%32)
			}
		}
	}
	b := deletedBoxes(3)[5]
	for flags := range 32 {
		for how := -1; how <= 1; how++ {
			for _, places := range choices(b) {
				x, _ := expectFlagged(t, b, places, how, flags)
				for i, m := range x.Mail {
					want := b.Mail[i]
					if slices.Contains(places, i+1) {
						want.Flags = impl.FlagsChange(want.Flags, how, flags)
					}
					if m != want {
						t.Errorf("BoxFlags(%v, %v, %d, %d) is %v", b, places, how, flags, x)
					}
				}
			}
		}
	}
}

func TestP61ChangesThatAreNone(t *testing.T) {
	for _, b := range []impl.Box{{Next: 1}, boxWith(100, 7), boxWith(50, 3, 7, 20)} {
		for _, places := range fewChoices(b) {
			for _, how := range badHows() {
				expectFlagged(t, b, places, how, 1)
				expectFlagged(t, b, places, how, -1)
			}
			for _, flags := range notFlags() {
				for how := -1; how <= 1; how++ {
					expectFlagged(t, b, places, how, flags)
				}
			}
		}
	}
}

func TestP62ChangesOfMailboxesAgain(t *testing.T) {
	for _, b := range boxes() {
		for _, places := range fewChoices(b) {
			for how := -1; how <= 1; how++ {
				for _, flags := range []int{0, 3, 8, 31} {
					once, ok := impl.BoxFlags(b, places, how, flags)
					again, fine := impl.BoxFlags(once, places, how, flags)
					if !ok || !fine || !sameBox(once, again) {
						t.Errorf("BoxFlags(%v, %v, %d, %d) is %v, and then %v", b, places, how, flags, once, again)
					}
				}
			}
		}
	}
}

func TestP63PlacesThatAreNone(t *testing.T) {
	for _, b := range boxes() {
		for how := -1; how <= 1; how++ {
			for _, none := range [][]int{nil, {}} {
				got, ok := impl.BoxFlags(b, none, how, impl.FlagsAll)
				expectBox(t, "BoxFlags without places", got, ok, b, true)
			}
		}
		for _, places := range notPlaces(b) {
			got, ok := impl.BoxFlags(b, places, 1, impl.FlagSeen)
			expectBox(t, "BoxFlags of wrong places", got, ok, impl.Box{}, false)
		}
	}
}

// TestP63ShortListsOfPlaces tries all lists of up to five places from -1 to two past the end, in every order.
func TestP63ShortListsOfPlaces(t *testing.T) {
	b := boxWith(50, 3, 7, 20)
	for _, digits := range shortTexts("0123456", 5) {
		var places []int
		for _, digit := range []byte(digits) {
			places = append(places, int(digit-'0')-1)
		}
		expectFlagged(t, b, places, 0, 21)
		expectCopied(t, b, places, boxWith(9, 8))
	}
}

func TestP64MessagesThatStay(t *testing.T) {
	for _, b := range append(boxes(), deletedBoxes(10)...) {
		x, _ := expectExpunged(t, b)
		want := slices.DeleteFunc(slices.Clone(b.Mail), isDeleted)
		if !slices.Equal(x.Mail, want) || x.Next != b.Next || !impl.BoxValid(x) {
			t.Errorf("BoxExpunge(%v) is %v", b, x)
		}
	}
}

func TestP64NamedRemovals(t *testing.T) {
	for deleted, want := range map[string][]int{
		"": nil, "1": {1}, "2": {2}, "5": {5}, "12": {1, 1}, "13": {1, 2}, "15": {1, 4}, "45": {4, 4}, "23": {2, 2}, "24": {2, 3}, "34": {3, 3},
		"123": {1, 1, 1}, "345": {3, 3, 3}, "135": {1, 2, 3}, "234": {2, 2, 2}, "125": {1, 1, 3}, "1245": {1, 1, 2, 2}, "1234": {1, 1, 1, 1}, "2345": {2, 2, 2, 2}, "12345": {1, 1, 1, 1, 1},
	} {
		b := boxWith(9, 2, 3, 5, 7, 8)
		for i := range b.Mail {
			b.Mail[i].Flags = 1
			if strings.Contains(deleted, string(rune('1'+i))) {
				b.Mail[i].Flags = 9
			}
		}
		x, gone := impl.BoxExpunge(b)
		if !slices.Equal(gone, want) || len(x.Mail) != 5-len(deleted) || x.Next != 9 {
			t.Errorf("BoxExpunge with %q deleted is %v, %v", deleted, x, gone)
		}
	}
}

func TestP65RemovalsOneAfterTheOther(t *testing.T) {
	for _, b := range append(boxes(), deletedBoxes(10)...) {
		x, gone := impl.BoxExpunge(b)
		left := slices.Clone(b.Mail)
		for _, place := range gone {
			if place < 1 || place > len(left) || !isDeleted(left[place-1]) {
				t.Fatalf("BoxExpunge(%v) has the places %v", b, gone)
			}
			left = slices.Delete(left, place-1, place)
		}
		if !slices.Equal(left, x.Mail) {
			t.Errorf("BoxExpunge(%v) is %v, and its places lead to %v", b, x, left)
		}
	}
}

func TestP66RemovalsAgain(t *testing.T) {
	for _, b := range append(boxes(), deletedBoxes(10)...) {
		once, _ := impl.BoxExpunge(b)
		if again, gone := impl.BoxExpunge(once); !sameBox(again, once) || len(gone) != 0 {
			t.Errorf("BoxExpunge(%v) is %v, %v", once, again, gone)
		}
	}
}

func TestP67NothingIsDeleted(t *testing.T) {
	for _, b := range append(boxes(), deletedBoxes(10)...) {
		all := choices(b)
		kept, ok := impl.BoxFlags(b, all[len(all)-1], -1, impl.FlagDeleted)
		if x, gone := impl.BoxExpunge(kept); !ok || !sameBox(x, kept) || len(x.Mail) != len(b.Mail) || len(gone) != 0 {
			t.Errorf("BoxExpunge(%v) is %v, %v", kept, x, gone)
		}
	}
}

func TestP68NumbersAfterRemovals(t *testing.T) {
	for _, b := range append(boxes(), deletedBoxes(10)...) {
		x, _ := impl.BoxExpunge(b)
		y, ok := expectAppended(t, x, 0, "new")
		if !ok {
			continue
		}
		if uid := y.Mail[len(y.Mail)-1].Uid; uid != b.Next || slices.Contains(uidsOf(b), uid) {
			t.Errorf("the message after BoxExpunge(%v) has the number %d", b, uid)
		}
	}
}

func TestP68EachNumberIsGivenOnce(t *testing.T) {
	for _, flags := range []int{8, 9, 31} {
		b := impl.Box{Next: 1}
		for uid := 1; uid <= 99; uid++ {
			x, ok := impl.BoxAppend(b, flags, "text")
			if !ok || x.Mail[len(x.Mail)-1].Uid != uid {
				t.Fatalf("BoxAppend(%v) is %v, %v", b, x, ok)
			}
			b = x
			if uid%7 == 0 || len(b.Mail) == 10 {
				b, _ = expectExpunged(t, b)
			}
		}
		b, _ = impl.BoxExpunge(b)
		got, ok := impl.BoxAppend(b, 0, "")
		expectBox(t, "BoxAppend behind the last number", got, ok, impl.Box{Next: 100}, false)
	}
}

func TestP69MessagesCopied(t *testing.T) {
	for _, b := range boxes() {
		for i, to := range boxes() {
			list := fewChoices(b)
			// One choice for each pair of mailboxes, in turn, is enough for all to come with all.
			for _, places := range [][]int{list[i%len(list)], list[(i*7+3)%len(list)], list[2]} {
				x, ok := expectCopied(t, b, places, to)
				if !ok {
					continue
				}
				if len(x.Mail) != len(to.Mail)+len(places) || !slices.Equal(x.Mail[:len(to.Mail)], to.Mail) || !impl.BoxValid(x) {
					t.Errorf("BoxCopy(%v, %v, %v) is %v", b, places, to, x)
				}
			}
		}
	}
}

func TestP69AllPlacesCopied(t *testing.T) {
	b := deletedBoxes(10)[77]
	for _, to := range []impl.Box{{Next: 1}, {Next: 90}, {Next: 91}, {Next: 95}, {Next: 99}, {Next: 100}, boxWith(51, 50), boxWith(20, 1, 3, 5, 7, 9), boxWith(98, 1, 97), boxWith(10, 1, 2, 3, 4, 5, 6, 7, 8, 9), boxWith(11, 1, 2, 3, 4, 5, 6, 7, 8, 9, 10)} {
		for _, places := range choices(b) {
			expectCopied(t, b, places, to)
		}
	}
}

func TestP69CopiesToThemselves(t *testing.T) {
	for _, b := range append(boxes(), deletedBoxes(4)...) {
		before := boxClone(b)
		for _, places := range fewChoices(b) {
			expectCopied(t, b, places, b)
		}
		if !sameBox(b, before) {
			t.Errorf("%v became %v", before, b)
		}
	}
	b := impl.Box{Next: 8, Mail: []impl.Mail{{Uid: 3, Flags: 8, Text: "one"}, {Uid: 7, Flags: 1, Text: "two"}}}
	want := impl.Box{Next: 10, Mail: []impl.Mail{{Uid: 3, Flags: 8, Text: "one"}, {Uid: 7, Flags: 1, Text: "two"}, {Uid: 8, Flags: 8, Text: "one"}, {Uid: 9, Flags: 1, Text: "two"}}}
	got, ok := impl.BoxCopy(b, []int{1, 2}, b)
	expectBox(t, "BoxCopy of a mailbox to itself", got, ok, want, true)
}

// TestP70NotEnoughForAll has mailboxes with room, or numbers, for exactly all messages and for each smaller part of them.
func TestP70NotEnoughForAll(t *testing.T) {
	b := boxWith(99, 1, 5, 9, 30, 98)
	places := []int{1, 2, 3, 4, 5}
	for n := range 8 {
		var uids []int
		for uid := 1; uid <= 10-n; uid++ {
			uids = append(uids, uid)
		}
		for _, to := range []impl.Box{boxWith(20, uids...), {Next: 100 - n}, boxWith(100-n, 40)} {
			x, ok := expectCopied(t, b, places, to)
			if ok != (n >= 5) || !ok && !sameBox(x, to) {
				t.Errorf("BoxCopy(%v, %v, %v) is %v, %v", b, places, to, x, ok)
			}
		}
	}
}

func TestP70InvalidAheadOfFull(t *testing.T) {
	b := boxWith(50, 3, 7, 20)
	for _, to := range []impl.Box{boxWith(11, 1, 2, 3, 4, 5, 6, 7, 8, 9, 10), {Next: 100}, boxWith(99, 98)} {
		for _, places := range notPlaces(b) {
			got, ok := impl.BoxCopy(b, places, to)
			expectBox(t, "BoxCopy of wrong places", got, ok, impl.Box{}, false)
		}
		got, ok := impl.BoxCopy(b, []int{1, 3}, to)
		expectBox(t, "BoxCopy to a full mailbox", got, ok, to, false)
	}
}

func TestP71CopiesWithoutPlaces(t *testing.T) {
	for _, b := range boxes() {
		for _, to := range boxes() {
			got, ok := impl.BoxCopy(b, nil, to)
			expectBox(t, "BoxCopy without places", got, ok, to, true)
			got, ok = impl.BoxCopy(b, []int{}, to)
			expectBox(t, "BoxCopy without places", got, ok, to, true)
		}
	}
}

func TestP71CopiesBetweenInvalidMailboxes(t *testing.T) {
	good := boxWith(50, 3, 7, 20)
	for _, bad := range notBoxes() {
		for _, places := range [][]int{nil, {1}} {
			got, ok := impl.BoxCopy(bad, places, good)
			expectBox(t, "BoxCopy of an invalid mailbox", got, ok, impl.Box{}, false)
			got, ok = impl.BoxCopy(good, places, bad)
			expectBox(t, "BoxCopy to an invalid mailbox", got, ok, impl.Box{}, false)
			got, ok = impl.BoxCopy(bad, places, bad)
			expectBox(t, "BoxCopy of an invalid mailbox to itself", got, ok, impl.Box{}, false)
		}
	}
}

// uidArguments are lists of any numbers: in any order, repeated, unknown, and out of the range.
func uidArguments(b impl.Box) [][]int {
	list := [][]int{nil, {}, {0}, {-1}, {1}, {99}, {100}, {b.Next}, {math.MinInt, math.MaxInt}, {20, 7, 3}, {7, 7, 7}, {9, 2}, {1<<32 + 3, 3, -3}}
	for _, places := range fewChoices(b) {
		var uids []int
		for _, place := range places {
			uids = append(uids, b.Mail[place-1].Uid)
		}
		other := slices.Clone(uids)
		slices.Reverse(other)
		list = append(list, uids, other, slices.Concat(uids, other), slices.Concat([]int{0, b.Next, 100}, other, []int{-5}))
	}
	return list
}

func TestP72PlacesOfNumbers(t *testing.T) {
	for _, b := range boxes() {
		for _, uids := range uidArguments(b) {
			places := expectPlaces(t, b, uids)
			if !arePlaces(b, places) {
				t.Errorf("BoxUids(%v, %v) is %v", b, uids, places)
			}
			for i, m := range b.Mail {
				if slices.Contains(uids, m.Uid) != slices.Contains(places, i+1) {
					t.Errorf("BoxUids(%v, %v) is %v", b, uids, places)
				}
			}
		}
		for uid := -2; uid <= 102; uid++ {
			expectPlaces(t, b, []int{uid})
		}
	}
}

func TestP73PlacesOfAllNumbers(t *testing.T) {
	var every []int
	for uid := 120; uid >= -20; uid-- {
		every = append(every, uid)
	}
	for _, b := range boxes() {
		all := choices(b)
		for _, uids := range [][]int{uidsOf(b), every, slices.Repeat(uidsOf(b), 3)} {
			if places := impl.BoxUids(b, uids); !slices.Equal(places, all[len(all)-1]) {
				t.Errorf("BoxUids(%v, %v) is %v", b, uids, places)
			}
		}
	}
}

func TestP74SizesGrow(t *testing.T) {
	for _, b := range boxes() {
		for _, text := range mailTexts() {
			x, ok := impl.BoxAppend(b, 0, text)
			if ok && impl.BoxSize(x) != impl.BoxSize(b)+len(text) {
				t.Errorf("BoxSize(%v) is %d", x, impl.BoxSize(x))
			}
		}
	}
}

func TestP75SizesOfParts(t *testing.T) {
	for _, b := range append(boxes(), deletedBoxes(10)...) {
		size := impl.BoxSize(b)
		if size != sizeOf(b) {
			t.Errorf("BoxSize(%v) is %d", b, size)
		}
		for i := range len(b.Mail) + 1 {
			first, other := impl.Box{Next: b.Next, Mail: b.Mail[:i]}, impl.Box{Next: b.Next, Mail: b.Mail[i:]}
			if impl.BoxSize(first)+impl.BoxSize(other) != size {
				t.Errorf("the parts of %v at %d have other sizes", b, i)
			}
		}
	}
	full := impl.Box{Next: 11}
	for uid := 1; uid <= 10; uid++ {
		full.Mail = append(full.Mail, impl.Mail{Uid: uid, Text: strings.Repeat("x", 20)})
	}
	if size := impl.BoxSize(full); size != 200 {
		t.Errorf("BoxSize of ten longest texts is %d", size)
	}
}

func TestP75InvalidMailboxes(t *testing.T) {
	for _, b := range notBoxes() {
		if size := impl.BoxSize(b); size != -1 {
			t.Errorf("BoxSize(%v) is %d", b, size)
		}
		x, gone := impl.BoxExpunge(b)
		if !sameBox(x, impl.Box{}) || len(gone) != 0 {
			t.Errorf("BoxExpunge(%v) is %v, %v", b, x, gone)
		}
		if places := impl.BoxUids(b, uidsOf(b)); len(places) != 0 {
			t.Errorf("BoxUids(%v) is %v", b, places)
		}
		x, ok := impl.BoxAppend(b, 0, "")
		expectBox(t, "BoxAppend to an invalid mailbox", x, ok, impl.Box{}, false)
		for _, places := range [][]int{nil, {1}} {
			x, ok = impl.BoxFlags(b, places, 1, 1)
			expectBox(t, "BoxFlags of an invalid mailbox", x, ok, impl.Box{}, false)
		}
	}
}

// boxArguments are what the functions of mailboxes take in slices.
type boxArguments struct {
	b       impl.Box
	to      impl.Box
	numbers []int
}

// boxResults are what they return in slices.
type boxResults struct {
	box  impl.Box
	list []int
}

// boxOnly leaves out whether a call succeeded.
func boxOnly(b impl.Box, _ bool) boxResults {
	return boxResults{box: b}
}

// boxCalls has a call of each function for each kind of its results.
var boxCalls = map[string]func(a boxArguments) boxResults{
	"BoxAppend": func(a boxArguments) boxResults {
		return boxOnly(impl.BoxAppend(a.b, 1, "new"))
	},
	"BoxAppend of no flags": func(a boxArguments) boxResults {
		return boxOnly(impl.BoxAppend(a.b, 32, "new"))
	},
	"BoxFlags": func(a boxArguments) boxResults {
		return boxOnly(impl.BoxFlags(a.b, a.numbers, 0, 22))
	},
	"BoxFlags without places": func(a boxArguments) boxResults {
		return boxOnly(impl.BoxFlags(a.b, nil, 0, 22))
	},
	"BoxExpunge": func(a boxArguments) boxResults {
		x, gone := impl.BoxExpunge(a.b)
		return boxResults{x, gone}
	},
	"BoxCopy": func(a boxArguments) boxResults {
		return boxOnly(impl.BoxCopy(a.b, a.numbers, a.to))
	},
	"BoxCopy without places": func(a boxArguments) boxResults {
		return boxOnly(impl.BoxCopy(a.b, nil, a.to))
	},
	"BoxCopy back": func(a boxArguments) boxResults {
		return boxOnly(impl.BoxCopy(a.to, a.numbers, a.b))
	},
	"BoxCopy to itself": func(a boxArguments) boxResults {
		return boxOnly(impl.BoxCopy(a.b, a.numbers, a.b))
	},
	"BoxUids": func(a boxArguments) boxResults {
		return boxResults{list: impl.BoxUids(a.b, a.numbers)}
	},
	"BoxUids of all numbers": func(a boxArguments) boxResults {
		return boxResults{list: impl.BoxUids(a.b, uidsOf(a.b))}
	},
	"BoxValid and BoxSize": func(a boxArguments) boxResults {
		if !impl.BoxValid(a.b) {
			return boxResults{}
		}
		return boxResults{list: []int{impl.BoxSize(a.b)}}
	},
}

// whole returns a slice with all that lies within its capacity.
func whole[T any](list []T) []T {
	return list[:cap(list)]
}

// roomy returns a copy of a slice with room behind it, in which others lie: what is written there in place is seen.
func roomy[T any](list []T, other T) []T {
	return append(slices.Clone(list), slices.Repeat([]T{other}, 25)...)[:len(list)]
}

func (a boxArguments) roomy() boxArguments {
	other := impl.Mail{Uid: 77, Flags: 7, Text: "other"}
	return boxArguments{b: impl.Box{Next: a.b.Next, Mail: roomy(a.b.Mail, other)}, to: impl.Box{Next: a.to.Next, Mail: roomy(a.to.Mail, other)}, numbers: roomy(a.numbers, 77)}
}

// keep returns a copy of all arguments, and of all that lies within their capacity.
func (a boxArguments) keep() boxArguments {
	return boxArguments{b: impl.Box{Next: a.b.Next, Mail: slices.Clone(whole(a.b.Mail))}, to: impl.Box{Next: a.to.Next, Mail: slices.Clone(whole(a.to.Mail))}, numbers: slices.Clone(whole(a.numbers))}
}

// isAs reports whether the arguments, and all that lies within their capacity, are as they were kept.
func (a boxArguments) isAs(kept boxArguments) bool {
	now := a.keep()
	return sameBox(now.b, kept.b) && sameBox(now.to, kept.to) && slices.Equal(now.numbers, kept.numbers)
}

// overwrite changes all that lies within the capacity of the arguments.
func (a boxArguments) overwrite() {
	boxResults{a.b, a.numbers}.overwrite()
	boxResults{box: a.to}.overwrite()
}

func (r boxResults) clone() boxResults {
	return boxResults{boxClone(r.box), slices.Clone(r.list)}
}

func (r boxResults) same(other boxResults) bool {
	return sameBox(r.box, other.box) && slices.Equal(r.list, other.list)
}

// overwrite changes all that lies within the capacity of the results.
func (r boxResults) overwrite() {
	for i := range whole(r.box.Mail) {
		whole(r.box.Mail)[i] = impl.Mail{Uid: -1, Flags: -1, Text: "overwritten"}
	}
	for i := range whole(r.list) {
		whole(r.list)[i] = -1
	}
}

// boxArgumentLists are arguments for which the calls succeed, for which they fail for want of space, and invalid ones.
func boxArgumentLists() []boxArguments {
	full := boxWith(11, 1, 2, 3, 4, 5, 6, 7, 8, 9, 10)
	few := deletedBoxes(5)
	return []boxArguments{
		{boxWith(50, 3, 7, 20), boxWith(9, 1, 2), []int{1, 3}}, {few[0], few[31], []int{1, 2, 3, 4, 5}}, {few[31], few[0], []int{2}}, {few[10], few[21], nil}, {few[10], few[21], []int{}},
		{boxWith(50, 3, 7, 20), full, []int{1, 2}}, {full, boxWith(50, 3, 7, 20), []int{1, 3}}, {full, boxWith(98, 1), []int{1, 2, 3}}, {boxWith(100, 1, 2), impl.Box{Next: 99}, []int{1, 2}},
		{impl.Box{Next: 1}, impl.Box{Next: 1}, nil}, {impl.Box{Next: 1}, full, []int{1}}, {few[1], few[2], []int{2, 1}}, {few[1], few[2], []int{0, 9}}, {boxWith(3, 5), boxWith(3, 5, 4), []int{1}},
	}
}

func TestMailboxesKeepTheirMemory(t *testing.T) {
	for name, call := range boxCalls {
		for _, plain := range boxArgumentLists() {
			a := plain.roomy()
			before := a.keep()
			first, second := call(a), call(a)
			want := second.clone()
			if !first.same(second) || !a.isAs(before) {
				t.Errorf("%s changed its arguments %v", name, plain)
			}
			first.overwrite()
			if !second.same(want) || !a.isAs(before) {
				t.Errorf("a result of %s shares memory with the arguments %v or with another result", name, plain)
			}
			a.overwrite()
			if !second.same(want) {
				t.Errorf("a result of %s changes with the arguments %v", name, plain)
			}
		}
	}
}

func TestMailboxesOfNilAndEmptySlices(t *testing.T) {
	var none []impl.Mail
	full := boxWith(11, 1, 2, 3, 4, 5, 6, 7, 8, 9, 10)
	for name, call := range boxCalls {
		for _, next := range []int{-1, 0, 1, 50, 99, 100, 101} {
			for _, other := range []impl.Box{boxWith(50, 3, 7, 20), full, {Next: next}, {}} {
				want := call(boxArguments{b: impl.Box{Next: next, Mail: none}, to: other})
				back := call(boxArguments{b: other, to: impl.Box{Next: next, Mail: none}})
				for _, empty := range [][]impl.Mail{{}, make([]impl.Mail, 0, 5), full.Mail[:0]} {
					for _, numbers := range [][]int{nil, {}, make([]int, 0, 5)} {
						x := impl.Box{Next: next, Mail: empty}
						if !call(boxArguments{x, other, numbers}).same(want) || !call(boxArguments{other, x, numbers}).same(back) {
							t.Errorf("%s is not the same with an empty mailbox, Next %d and %v", name, next, other)
						}
					}
				}
			}
		}
	}
	if !sameBox(full, boxWith(11, 1, 2, 3, 4, 5, 6, 7, 8, 9, 10)) {
		t.Errorf("the full mailbox became %v", full)
	}
}
