package tests

import (
	"math"
	"slices"
	"strconv"
	"strings"
	"testing"

	"loop.example/mailhost/impl"
)

// A second definition of queues, against which the program is held: a valid queue is the list of its copies, to which
// some are added and of which one is taken.
type letterCopy struct {
	id   int
	from string
	text string
	user string
}

func idsOf(q impl.Queue) []int {
	var list []int
	for _, item := range q.Items {
		list = append(list, item.Id)
	}
	return list
}

func isItem(item impl.Item) bool {
	return 1 <= item.Id && item.Id <= 99 && isLetter(impl.Letter{From: item.From, To: item.Left, Text: item.Text})
}

func isQueue(q impl.Queue) bool {
	return len(q.Items) <= 6 && 1 <= q.Next && q.Next <= 100 && isAscending(append(idsOf(q), q.Next)) &&
		!slices.ContainsFunc(q.Items, func(item impl.Item) bool { return !isItem(item) })
}

func copiesOf(q impl.Queue) []letterCopy {
	var list []letterCopy
	for _, item := range q.Items {
		for _, user := range item.Left {
			list = append(list, letterCopy{item.Id, item.From, item.Text, user})
		}
	}
	return list
}

// queueOf returns the queue of a list of copies.
func queueOf(next int, list []letterCopy) impl.Queue {
	q := impl.Queue{Next: next}
	for i, c := range list {
		if i == 0 || list[i-1].id != c.id {
			q.Items = append(q.Items, impl.Item{Id: c.id, From: c.from, Text: c.text})
		}
		item := &q.Items[len(q.Items)-1]
		item.Left = append(item.Left, c.user)
	}
	return q
}

// withLetter is a second definition of QueueAdd.
func withLetter(q impl.Queue, x impl.Letter) (impl.Queue, bool) {
	if !isQueue(q) || !isLetter(x) {
		return impl.Queue{}, false
	}
	if len(q.Items) == 6 || q.Next == 100 {
		return q, false
	}
	list := copiesOf(q)
	for _, user := range x.To {
		list = append(list, letterCopy{q.Next, x.From, x.Text, user})
	}
	return queueOf(q.Next+1, list), true
}

// withoutCopy is a second definition of QueueTake.
func withoutCopy(q impl.Queue, id int, user string) (impl.Queue, string, bool) {
	if !isQueue(q) {
		return impl.Queue{}, "", false
	}
	list := copiesOf(q)
	at := slices.IndexFunc(list, func(c letterCopy) bool { return c.id == id && c.user == user })
	if at < 0 {
		return q, "", false
	}
	text := list[at].text
	return queueOf(q.Next, slices.Delete(list, at, at+1)), text, true
}

// copiesFor is a second definition of QueueLeft.
func copiesFor(q impl.Queue, user string) int {
	if !isQueue(q) {
		return -1
	}
	list := slices.DeleteFunc(copiesOf(q), func(c letterCopy) bool { return c.user != user })
	return len(list)
}

func sameItem(a impl.Item, b impl.Item) bool {
	return a.Id == b.Id && a.From == b.From && a.Text == b.Text && slices.Equal(a.Left, b.Left)
}

func sameItems(a []impl.Item, b []impl.Item) bool {
	return slices.EqualFunc(a, b, sameItem)
}

func sameQueue(a impl.Queue, b impl.Queue) bool {
	return a.Next == b.Next && sameItems(a.Items, b.Items)
}

// queueClone returns a copy that shares no memory.
func queueClone(q impl.Queue) impl.Queue {
	x := impl.Queue{Next: q.Next, Items: slices.Clone(q.Items)}
	for i, item := range q.Items {
		x.Items[i].Left = slices.Clone(item.Left)
	}
	return x
}

// itemOf returns an item, whose receivers are the words of a text.
func itemOf(id int, from string, left string, text string) impl.Item {
	return impl.Item{Id: id, From: from, Text: text, Left: strings.Fields(left)}
}

// queueWith returns a queue with items of the given numbers, with different senders, receivers and texts.
func queueWith(next int, ids ...int) impl.Queue {
	q := impl.Queue{Next: next}
	lists, texts, senders := receiverLists(), mailTexts(), append(names(), "bob", "anyone")
	for i, id := range ids {
		q.Items = append(q.Items, itemOf(id, senders[(id+i)%len(senders)], lists[(7*id+5*i)%len(lists)], texts[(id+3*i)%len(texts)]))
	}
	return q
}

// idLists are the numbers of items: none, one, several with gaps and without, MaxQueue and one less, and both limits.
func idLists() [][]int {
	return [][]int{
		nil, {1}, {2}, {42}, {98}, {99}, {1, 2}, {1, 99}, {98, 99}, {5, 50}, {1, 2, 3}, {3, 7, 20}, {1, 50, 99}, {97, 98, 99}, {4, 5, 9, 10}, {1, 2, 98, 99},
		{1, 2, 3, 4, 5}, {2, 30, 31, 80, 81}, {95, 96, 97, 98, 99}, {1, 2, 3, 4, 5, 6}, {94, 95, 96, 97, 98, 99}, {1, 12, 23, 45, 67, 99}, {2, 4, 8, 16, 32, 64}, {3, 9, 10, 11, 60, 61},
	}
}

// leftQueues have up to three items with all choices of a few lists of receivers, so that users are left in several.
func leftQueues() []impl.Queue {
	lists := []string{"amy", "bob", "bob amy", "cleo amy bob"}
	var list []impl.Queue
	for _, text := range shortTexts("0123", 3) {
		q := impl.Queue{Next: 20 + len(text)}
		for i, sign := range []byte(text) {
			q.Items = append(q.Items, itemOf([]int{3, 4, 19}[i], []string{"amy", "eve", "amy"}[i], lists[sign-'0'], []string{"one", "", "one"}[i]))
		}
		list = append(list, q)
	}
	return list
}

// queues are valid: each with the least and the greatest possible Next, and with some between them.
func queues() []impl.Queue {
	list := []impl.Queue{{Next: 1}, {Next: 1, Items: []impl.Item{}}, {Next: 100, Items: []impl.Item{}}}
	for _, ids := range idLists() {
		last := slices.Max(append([]int{0}, ids...))
		for _, next := range []int{last + 1, last + 2, 50, 97, 99, 100} {
			if last < next && next <= 100 {
				list = append(list, queueWith(next, ids...))
			}
		}
	}
	three := queueWith(80, 10, 20, 30, 40, 50, 60)
	for i := range three.Items {
		three.Items[i].Left = []string{"dan", "amy", "bob"}
	}
	return slices.Concat(list, leftQueues(), []impl.Queue{three, {Next: 80, Items: three.Items[:5]}})
}

// queuesWithRoom are those of the valid queues to which a letter can be added.
func queuesWithRoom() []impl.Queue {
	return slices.DeleteFunc(queues(), func(q impl.Queue) bool { return len(q.Items) == 6 || q.Next == 100 })
}

// fewQueues are valid: empty, with gaps, full, and without a number left.
func fewQueues() []impl.Queue {
	return append([]impl.Queue{{Next: 1}, {Next: 42}, {Next: 100}, queueWith(2, 1), queueWith(50, 3, 7, 20), queueWith(100, 97, 98, 99), queueWith(82, 2, 30, 31, 80, 81), queueWith(7, 1, 2, 3, 4, 5, 6), queueWith(100, 94, 95, 96, 97, 98, 99)}, leftQueues()[60:]...)
}

// notIds are no numbers of items.
func notIds() []int {
	return []int{math.MinInt, math.MinInt32, -1 << 32, -256, -99, -2, -1, 0, 100, 101, 127, 128, 255, 256, 257, 300, 1 << 32, 1<<32 + 1, 1<<32 + 50, math.MaxInt32, math.MaxInt - 1, math.MaxInt}
}

// withOtherNexts returns queues of items for which Next is out of the range, or not greater than all numbers.
func withOtherNexts(q impl.Queue) []impl.Queue {
	nexts := []int{math.MinInt, -1 << 32, -100, -1, 0, 101, 102, 127, 128, 256, 257, 1000, 1 << 32, 1<<32 + 50, 1<<32 + 100, math.MaxInt - 1, math.MaxInt}
	last := slices.Max(append([]int{0}, idsOf(q)...))
	for n := 1; n <= last; n++ {
		nexts = append(nexts, n)
	}
	var list []impl.Queue
	for _, next := range nexts {
		list = append(list, impl.Queue{Next: next, Items: q.Items})
	}
	return list
}

// withItem returns a queue with another item at a place.
func withItem(q impl.Queue, at int, item impl.Item) impl.Queue {
	x := impl.Queue{Next: q.Next, Items: slices.Clone(q.Items)}
	x.Items[at] = item
	return x
}

// withOtherIds returns queues in which one number is none, or equal to another one.
func withOtherIds(q impl.Queue) []impl.Queue {
	var list []impl.Queue
	for at, item := range q.Items {
		for _, id := range slices.Concat(notIds(), idsOf(q)) {
			other := item
			other.Id = id
			if id != item.Id {
				list = append(list, withItem(q, at, other))
			}
		}
	}
	return list
}

// withOtherLetters returns queues in which one item is no letter.
func withOtherLetters(q impl.Queue, letters []impl.Letter) []impl.Queue {
	var list []impl.Queue
	for at, item := range q.Items {
		for _, x := range letters {
			list = append(list, withItem(q, at, impl.Item{Id: item.Id, From: x.From, Text: x.Text, Left: x.To}))
		}
	}
	return list
}

// withItemTwice returns queues in which one item is repeated: behind itself, and ahead of and behind others.
func withItemTwice(q impl.Queue) []impl.Queue {
	var list []impl.Queue
	for _, item := range q.Items {
		for at := range len(q.Items) + 1 {
			list = append(list, impl.Queue{Next: q.Next, Items: slices.Insert(slices.Clone(q.Items), at, item)})
		}
	}
	return list
}

// inOtherQueueOrders returns queues in which two items are exchanged, or the numbers of two.
func inOtherQueueOrders(q impl.Queue) []impl.Queue {
	var list []impl.Queue
	for j := range q.Items {
		for i := range j {
			moved, renamed := queueClone(q), queueClone(q)
			moved.Items[i], moved.Items[j] = moved.Items[j], moved.Items[i]
			renamed.Items[i].Id, renamed.Items[j].Id = renamed.Items[j].Id, renamed.Items[i].Id
			list = append(list, moved, renamed)
		}
	}
	return list
}

// longQueues have too many items, and no other fault as far as there are numbers.
func longQueues() []impl.Queue {
	var list []impl.Queue
	for _, count := range []int{7, 8, 9, 10, 16, 99, 100, 255, 256, 257, 262, 65537} {
		q := impl.Queue{Next: min(count+1, 100)}
		for i := range count {
			q.Items = append(q.Items, itemOf(i+1, "amy", "bob", ""))
		}
		list = append(list, q)
	}
	return append(list, queueWith(100, 93, 94, 95, 96, 97, 98, 99), queueWith(100, 1, 3, 5, 20, 30, 40, 41))
}

// notQueues have one fault each as far as that is possible.
func notQueues() []impl.Queue {
	list := append(longQueues(), impl.Queue{}, impl.Queue{Items: []impl.Item{}})
	wrong := notLetters()
	for i, ids := range idLists() {
		q := queueWith(100, ids...)
		list = slices.Concat(list, withOtherNexts(q), withOtherIds(q), withItemTwice(q), inOtherQueueOrders(q))
		if i%4 == 3 {
			list = append(list, withOtherLetters(q, wrong)...)
		}
	}
	return list
}

// fewNotQueues have one fault of each kind.
func fewNotQueues() []impl.Queue {
	one, full := queueWith(50, 3, 7, 20), queueWith(100, 1, 12, 23, 45, 67, 99)
	list := []impl.Queue{{}, {Next: -1}, {Next: 101}, {Next: 20, Items: one.Items}, {Next: 99, Items: full.Items}, {Next: 0, Items: one.Items}, longQueues()[0]}
	for _, q := range []impl.Queue{one, full} {
		list = slices.Concat(list, withItemTwice(q), inOtherQueueOrders(q), withOtherLetters(q, []impl.Letter{
			{From: "amy", Text: "x"}, {From: "amy", To: []string{"bob", "bob"}}, {From: "amy", To: []string{"a", "b", "c", "d"}}, {From: "Amy", To: []string{"bob"}}, {To: []string{"bob"}}, {From: "amy", To: []string{"bob"}, Text: strings.Repeat("x", 21)}, {From: "amy", To: []string{"bob", ""}},
		}))
		for _, id := range []int{-1, 0, 100} {
			list = append(list, withItem(q, 0, itemOf(id, "amy", "bob", "x")), withItem(q, 2, itemOf(id, "amy", "bob", "x")))
		}
	}
	return list
}

// fewLetters are valid: with one receiver and with several, and texts of no bytes and of MaxText.
func fewLetters() []impl.Letter {
	var list []impl.Letter
	for i, to := range []string{"bob", "amy", "eve", "amy bob", "bob amy", "bob cleo dan", "dan amy bob", "anyone 0 zzzzzzzz"} {
		list = append(list, impl.Letter{From: []string{"amy", "eve"}[i%2], To: strings.Fields(to), Text: []string{"", "hello\n", strings.Repeat("x", 20)}[i%3]})
	}
	return list
}

// askedUsers are all who are left in a queue, others, and texts that are no names.
func askedUsers(q impl.Queue) []string {
	list := []string{"amy", "bob", "cleo", "dan", "fred", "anyone", "a", "", " ", "Amy", "amy ", "amy bob", "bob,amy", "amybobcleo", "\x00", strings.Repeat("a", 300)}
	for _, item := range q.Items {
		list = append(list, item.From)
		list = append(list, item.Left...)
	}
	slices.Sort(list)
	return slices.Compact(list)
}

// askedIds are the numbers of the items of a queue, those beside them, and others.
func askedIds(q impl.Queue) []int {
	list := append(notIds(), 1, 50, 99, q.Next-1, q.Next, q.Next+1)
	for _, id := range idsOf(q) {
		list = append(list, id-1, id, id+1, -id, id+256, id+1<<32)
	}
	slices.Sort(list)
	return slices.Compact(list)
}

// addLetter returns QueueAdd of any arguments, and checks it first.
func addLetter(t *testing.T, q impl.Queue, x impl.Letter) (impl.Queue, bool) {
	t.Helper()
	want, wanted := withLetter(q, x)
	next, ok := impl.QueueAdd(q, x)
	if ok != wanted || !sameQueue(next, want) {
		t.Errorf("QueueAdd(%.300q, %.100q) is %.300q, %v, not %.300q, %v", []any{q}, []any{x}, []any{next}, ok, []any{want}, wanted)
	}
	return next, ok
}

// takeCopy returns QueueTake of any arguments, and checks it first.
func takeCopy(t *testing.T, q impl.Queue, id int, user string) (impl.Queue, string, bool) {
	t.Helper()
	want, wantedText, wanted := withoutCopy(q, id, user)
	next, text, ok := impl.QueueTake(q, id, user)
	if ok != wanted || text != wantedText || !sameQueue(next, want) {
		t.Errorf("QueueTake(%.300q, %d, %.30q) is %.300q, %q, %v, not %.300q, %q, %v", []any{q}, id, user, []any{next}, text, ok, []any{want}, wantedText, wanted)
	}
	return next, text, ok
}

// countLeft returns QueueLeft of any arguments, and checks it first.
func countLeft(t *testing.T, q impl.Queue, user string) int {
	t.Helper()
	count := impl.QueueLeft(q, user)
	if count != copiesFor(q, user) {
		t.Errorf("QueueLeft(%.300q, %.30q) is %d", []any{q}, user, count)
	}
	return count
}

// expectNoQueue checks that all functions refuse an invalid queue.
func expectNoQueue(t *testing.T, q impl.Queue) {
	t.Helper()
	if impl.QueueValid(q) || isQueue(q) {
		t.Errorf("QueueValid(%.300q) holds", []any{q})
	}
	for _, x := range []impl.Letter{{From: "amy", To: []string{"bob"}, Text: "x"}, {}} {
		if next, ok := impl.QueueAdd(q, x); ok || !sameQueue(next, impl.Queue{}) {
			t.Errorf("QueueAdd(%.300q) is %.300q, %v", []any{q}, []any{next}, ok)
		}
	}
	for _, id := range append(idsOf(q)[:min(3, len(q.Items))], 0, 50) {
		for _, user := range []string{"bob", ""} {
			if next, text, ok := impl.QueueTake(q, id, user); ok || text != "" || !sameQueue(next, impl.Queue{}) {
				t.Errorf("QueueTake(%.300q, %d, %q) is %.300q, %q, %v", []any{q}, id, user, []any{next}, text, ok)
			}
		}
	}
	if count := impl.QueueLeft(q, "bob"); count != -1 {
		t.Errorf("QueueLeft(%.300q) is %d", []any{q}, count)
	}
}

// eachTake calls check with each copy of each valid queue, and the queue without it.
func eachTake(t *testing.T, check func(q impl.Queue, c letterCopy, next impl.Queue, text string)) {
	t.Helper()
	for _, q := range queues() {
		for _, c := range copiesOf(q) {
			next, text, ok := takeCopy(t, q, c.id, c.user)
			if !ok {
				t.Errorf("QueueTake(%q, %d, %q) fails", []any{q}, c.id, c.user)
			}
			check(q, c, next, text)
		}
	}
}

// eachAdd calls check with each valid queue that has room, each letter, and the queue with both.
func eachAdd(t *testing.T, check func(q impl.Queue, x impl.Letter, next impl.Queue)) {
	t.Helper()
	for _, q := range queuesWithRoom() {
		for _, x := range append(letters(), fewLetters()...) {
			next, ok := addLetter(t, q, x)
			if !ok {
				t.Errorf("QueueAdd(%q, %q) fails", []any{q}, []any{x})
			}
			check(q, x, next)
		}
	}
}

func TestConstantsOfQueues(t *testing.T) {
	if impl.MaxQueue != 6 || impl.MaxId != 99 {
		t.Errorf("the limits are %d and %d", impl.MaxQueue, impl.MaxId)
	}
}

func TestQueuesAreValid(t *testing.T) {
	for _, q := range append(queues(), fewQueues()...) {
		if !impl.QueueValid(q) || !isQueue(q) {
			t.Errorf("QueueValid(%q) does not hold", []any{q})
		}
	}
	for id := 1; id < 100; id++ {
		for next := -1; next < 103; next++ {
			q := impl.Queue{Next: next, Items: []impl.Item{itemOf(id, "amy", "bob", "x")}}
			if impl.QueueValid(q) != (id < next && next <= 100) {
				t.Errorf("QueueValid is wrong for the number %d and Next %d", id, next)
			}
		}
	}
}

func TestQueuesOfLettersAreValid(t *testing.T) {
	for _, x := range letters() {
		for _, q := range []impl.Queue{queueWith(50, 7), queueWith(50, 3, 7, 20), queueWith(100, 94, 95, 96, 97, 98, 99)} {
			for _, other := range withOtherLetters(q, []impl.Letter{x}) {
				if !impl.QueueValid(other) || !isQueue(other) {
					t.Errorf("QueueValid(%q) does not hold", []any{other})
				}
			}
		}
	}
}

func TestQueuesAreInvalid(t *testing.T) {
	for _, q := range append(notQueues(), fewNotQueues()...) {
		expectNoQueue(t, q)
	}
}

// All orders of up to four numbers, of which some are none or equal.
func TestQueuesOfAnyNumbers(t *testing.T) {
	ids := []int{-1, 0, 1, 2, 50, 98, 99, 100}
	for _, text := range shortTexts("01234567", 4) {
		for _, next := range []int{0, 1, 2, 3, 51, 99, 100, 101} {
			q := impl.Queue{Next: next}
			for _, sign := range []byte(text) {
				q.Items = append(q.Items, itemOf(ids[sign-'0'], "amy", "bob", ""))
			}
			if impl.QueueValid(q) != isQueue(q) {
				t.Errorf("QueueValid is %v for the numbers %v and Next %d", !isQueue(q), idsOf(q), next)
			}
			countLeft(t, q, "bob")
		}
	}
}

func TestP137LastItem(t *testing.T) {
	eachAdd(t, func(q impl.Queue, x impl.Letter, next impl.Queue) {
		want := impl.Item{Id: q.Next, From: x.From, Text: x.Text, Left: x.To}
		if n := len(next.Items); n == 0 || !sameItem(next.Items[n-1], want) || next.Next != q.Next+1 || !impl.QueueValid(next) {
			t.Errorf("QueueAdd(%q, %q) is %q", []any{q}, []any{x}, []any{next})
		}
	})
}

func TestP137NamedQueues(t *testing.T) {
	to := []string{"dan", "bob", "cleo"}
	one, two := itemOf(3, "bob", "amy", "one"), itemOf(98, "amy", "bob amy", "two")
	for _, c := range []struct {
		q    impl.Queue
		want impl.Queue
	}{
		{impl.Queue{Next: 1}, impl.Queue{Next: 2, Items: []impl.Item{itemOf(1, "amy", "dan bob cleo", "hi")}}},
		{impl.Queue{Next: 99}, impl.Queue{Next: 100, Items: []impl.Item{itemOf(99, "amy", "dan bob cleo", "hi")}}},
		{impl.Queue{Next: 4, Items: []impl.Item{one}}, impl.Queue{Next: 5, Items: []impl.Item{one, itemOf(4, "amy", "dan bob cleo", "hi")}}},
		{impl.Queue{Next: 50, Items: []impl.Item{one}}, impl.Queue{Next: 51, Items: []impl.Item{one, itemOf(50, "amy", "dan bob cleo", "hi")}}},
		{impl.Queue{Next: 99, Items: []impl.Item{one, two}}, impl.Queue{Next: 100, Items: []impl.Item{one, two, itemOf(99, "amy", "dan bob cleo", "hi")}}},
	} {
		if next, ok := impl.QueueAdd(c.q, impl.Letter{From: "amy", To: to, Text: "hi"}); !ok || !sameQueue(next, c.want) {
			t.Errorf("QueueAdd(%q) is %q, %v", []any{c.q}, []any{next}, ok)
		}
	}
}

func TestP138EarlierItems(t *testing.T) {
	eachAdd(t, func(q impl.Queue, x impl.Letter, next impl.Queue) {
		if len(next.Items) != len(q.Items)+1 || !sameItems(next.Items[:len(q.Items)], q.Items) {
			t.Errorf("QueueAdd(%q, %q) is %q", []any{q}, []any{x}, []any{next})
		}
	})
}

func TestP139CopiesOfReceivers(t *testing.T) {
	eachAdd(t, func(q impl.Queue, x impl.Letter, next impl.Queue) {
		for _, user := range askedUsers(next) {
			want := impl.QueueLeft(q, user)
			if slices.Contains(x.To, user) {
				want++
			}
			if count := countLeft(t, next, user); count != want {
				t.Errorf("after QueueAdd(%q, %q), %d copies wait for %q", []any{q}, []any{x}, count, user)
			}
		}
	})
}

func TestP140FullQueues(t *testing.T) {
	refused := 0
	for _, q := range queues() {
		for _, x := range fewLetters() {
			next, ok := addLetter(t, q, x)
			full := len(q.Items) == impl.MaxQueue || q.Next > impl.MaxId
			if ok == full || full && !sameQueue(next, q) {
				t.Errorf("QueueAdd(%q, %q) is %q, %v", []any{q}, []any{x}, []any{next}, ok)
			}
			if full {
				refused++
			}
		}
	}
	if refused == 0 {
		t.Error("no queue is full")
	}
}

func TestP140AddsUntilFull(t *testing.T) {
	x := impl.Letter{From: "amy", To: []string{"bob", "amy"}, Text: "x"}
	for _, c := range []struct{ next, count int }{{1, 6}, {42, 6}, {93, 6}, {94, 6}, {95, 5}, {96, 4}, {98, 2}, {99, 1}, {100, 0}} {
		q := impl.Queue{Next: c.next}
		for range 9 {
			q, _ = addLetter(t, q, x)
		}
		if len(q.Items) != c.count || q.Next != c.next+c.count || impl.QueueLeft(q, "bob") != c.count {
			t.Errorf("from Next %d on, the queue becomes %q", c.next, []any{q})
		}
	}
}

// The numbers of items that were taken are not given again.
func TestP140NumbersAreGivenOnce(t *testing.T) {
	q := impl.Queue{Next: 1}
	x := impl.Letter{From: "amy", To: []string{"bob"}, Text: "x"}
	for id := 1; id < 100; id++ {
		next, ok := addLetter(t, q, x)
		if !ok || len(next.Items) != 1 || next.Items[0].Id != id {
			t.Errorf("the number %d is not given: %q", id, []any{next})
		}
		q, _, ok = takeCopy(t, next, id, "bob")
		if !ok || len(q.Items) != 0 || q.Next != id+1 {
			t.Errorf("the item %d is not taken: %q", id, []any{q})
		}
	}
	if next, ok := addLetter(t, q, x); ok || !sameQueue(next, impl.Queue{Next: 100}) {
		t.Errorf("after all numbers, QueueAdd is %q, %v", []any{next}, ok)
	}
}

func TestP140LettersThatAreInvalid(t *testing.T) {
	for _, x := range notLetters() {
		for _, q := range fewQueues() {
			if next, ok := addLetter(t, q, x); ok || !sameQueue(next, impl.Queue{}) {
				t.Errorf("QueueAdd(%q, %.200q) is %q, %v", []any{q}, []any{x}, []any{next}, ok)
			}
		}
	}
	for _, q := range fewNotQueues() {
		for _, x := range append(fewLetters(), impl.Letter{}, impl.Letter{From: "amy"}) {
			addLetter(t, q, x)
		}
	}
}

func TestP141TakenOnce(t *testing.T) {
	eachTake(t, func(q impl.Queue, c letterCopy, next impl.Queue, _ string) {
		if impl.QueueLeft(next, c.user) != impl.QueueLeft(q, c.user)-1 || !impl.QueueValid(next) || next.Next != q.Next {
			t.Errorf("QueueTake(%q, %d, %q) is %q", []any{q}, c.id, c.user, []any{next})
		}
		if again, text, ok := takeCopy(t, next, c.id, c.user); ok || text != "" || !sameQueue(again, next) {
			t.Errorf("QueueTake(%q, %d, %q) is %q, %q, %v the second time", []any{q}, c.id, c.user, []any{again}, text, ok)
		}
	})
}

// The copies of items at the beginning, in the middle and at the end are taken, with the first, a middle and the last
// of the copies of each.
func TestP141NamedTakes(t *testing.T) {
	one, two, three := itemOf(3, "eve", "amy", "one"), itemOf(7, "amy", "cleo amy bob", ""), itemOf(20, "bob", "bob", "three")
	four, five := itemOf(33, "amy", "bob amy", "four"), itemOf(41, "bob", "amy", "five")
	q := impl.Queue{Next: 42, Items: []impl.Item{one, two, three, four, five}}
	for _, c := range []struct {
		id    int
		user  string
		text  string
		items []impl.Item
	}{
		{3, "amy", "one", []impl.Item{two, three, four, five}},
		{7, "cleo", "", []impl.Item{one, itemOf(7, "amy", "amy bob", ""), three, four, five}},
		{7, "amy", "", []impl.Item{one, itemOf(7, "amy", "cleo bob", ""), three, four, five}},
		{7, "bob", "", []impl.Item{one, itemOf(7, "amy", "cleo amy", ""), three, four, five}},
		{20, "bob", "three", []impl.Item{one, two, four, five}},
		{33, "bob", "four", []impl.Item{one, two, three, itemOf(33, "amy", "amy", "four"), five}},
		{33, "amy", "four", []impl.Item{one, two, three, itemOf(33, "amy", "bob", "four"), five}},
		{41, "amy", "five", []impl.Item{one, two, three, four}},
	} {
		next, text, ok := impl.QueueTake(q, c.id, c.user)
		if !ok || text != c.text || !sameQueue(next, impl.Queue{Next: 42, Items: c.items}) {
			t.Errorf("QueueTake(%d, %q) is %q, %q, %v", c.id, c.user, []any{next}, text, ok)
		}
	}
}

// All copies of a queue are taken in each order, or the first six of more.
func TestP141CopiesInAnyOrder(t *testing.T) {
	indexes := []string{"0", "1", "2", "3", "4", "5"}
	all := orders(indexes)
	for _, q := range leftQueues() {
		list := copiesOf(q)
		for _, order := range all {
			x := q
			for _, index := range order {
				if at := int(index[0] - '0'); at < len(list) {
					x, _, _ = takeCopy(t, x, list[at].id, list[at].user)
				}
			}
			if len(list) <= len(indexes) && !sameQueue(x, impl.Queue{Next: q.Next}) {
				t.Errorf("in the order %v, %q becomes %q", order, []any{q}, []any{x})
			}
		}
	}
}

func TestP142TextOfTheItem(t *testing.T) {
	eachTake(t, func(q impl.Queue, c letterCopy, _ impl.Queue, text string) {
		if !slices.ContainsFunc(q.Items, func(item impl.Item) bool {
			return item.Id == c.id && item.Text == text && slices.Contains(item.Left, c.user)
		}) {
			t.Errorf("QueueTake(%q, %d, %q) has the text %q", []any{q}, c.id, c.user, text)
		}
	})
}

func TestP142TextsOfAnyBytes(t *testing.T) {
	for _, text := range append(mailTexts(), strings.Repeat("é", 10), "\n\n", ".\n") {
		q := impl.Queue{Next: 10, Items: []impl.Item{itemOf(2, "amy", "bob", "other"), itemOf(5, "bob", "bob cleo amy", text), itemOf(9, "amy", "bob", "another")}}
		for _, user := range []string{"bob", "cleo", "amy"} {
			next, got, ok := takeCopy(t, q, 5, user)
			if !ok || got != text || len(next.Items) != 3 || next.Items[1].Text != text {
				t.Errorf("QueueTake of %q for %q is %q, %q, %v", text, user, []any{next}, got, ok)
			}
		}
	}
}

func TestP143CopiesOfOthers(t *testing.T) {
	eachTake(t, func(q impl.Queue, c letterCopy, next impl.Queue, _ string) {
		for _, user := range askedUsers(q) {
			if count := countLeft(t, next, user); user != c.user && count != impl.QueueLeft(q, user) {
				t.Errorf("after QueueTake(%q, %d, %q), %d copies wait for %q", []any{q}, c.id, c.user, count, user)
			}
		}
	})
}

func TestP144TakesThatFail(t *testing.T) {
	for _, q := range queues() {
		users := askedUsers(q)
		for _, id := range askedIds(q) {
			for _, user := range users {
				next, text, ok := takeCopy(t, q, id, user)
				left := slices.ContainsFunc(q.Items, func(item impl.Item) bool { return item.Id == id && slices.Contains(item.Left, user) })
				if ok != left || !ok && (text != "" || !sameQueue(next, q)) {
					t.Errorf("QueueTake(%q, %d, %q) is %q, %q, %v", []any{q}, id, user, []any{next}, text, ok)
				}
			}
		}
	}
}

func TestP144UsersThatAreNoNames(t *testing.T) {
	for _, q := range fewQueues() {
		for _, user := range notNames() {
			for _, id := range append(idsOf(q), 0, q.Next) {
				if next, text, ok := takeCopy(t, q, id, user); ok || text != "" || !sameQueue(next, q) {
					t.Errorf("QueueTake(%q, %d, %q) is %q, %q, %v", []any{q}, id, user, []any{next}, text, ok)
				}
			}
			if count := countLeft(t, q, user); count != 0 {
				t.Errorf("in %q, %d copies wait for %q", []any{q}, count, user)
			}
		}
	}
}

func TestP145AllCopiesOfALetter(t *testing.T) {
	for _, q := range queuesWithRoom() {
		for _, x := range append(fewLetters(), letters()[:20]...) {
			full, _ := addLetter(t, q, x)
			for _, order := range orders(x.To) {
				next := full
				for i, user := range order {
					other, text, ok := takeCopy(t, next, q.Next, user)
					if !ok || text != x.Text || sameItems(other.Items, q.Items) != (i == len(order)-1) {
						t.Errorf("QueueTake(%q, %d, %q) is %q, %q, %v", []any{next}, q.Next, user, []any{other}, text, ok)
					}
					next = other
				}
				if !sameQueue(next, impl.Queue{Next: q.Next + 1, Items: q.Items}) {
					t.Errorf("taking all copies of %q from %q leads to %q", []any{x}, []any{full}, []any{next})
				}
			}
		}
	}
}

func TestP146Copies(t *testing.T) {
	for _, q := range queues() {
		for _, user := range askedUsers(q) {
			want := 0
			for _, item := range q.Items {
				if slices.Contains(item.Left, user) {
					want++
				}
			}
			if count := countLeft(t, q, user); count != want {
				t.Errorf("QueueLeft(%q, %q) is %d", []any{q}, user, count)
			}
		}
	}
	q := impl.Queue{Next: 42, Items: []impl.Item{itemOf(3, "eve", "amy", "one"), itemOf(7, "amy", "cleo amy bob", ""), itemOf(20, "cleo", "bob", "amy"), itemOf(41, "dan", "bob amy", "dan")}}
	for user, want := range map[string]int{"amy": 3, "bob": 3, "cleo": 1, "dan": 0, "eve": 0, "": 0, "am": 0, "amyb": 0, "Amy": 0} {
		if count := impl.QueueLeft(q, user); count != want {
			t.Errorf("QueueLeft for %q is %d", user, count)
		}
	}
}

func TestP146InvalidQueues(t *testing.T) {
	for _, q := range fewNotQueues() {
		for _, user := range append(askedUsers(q), notNames()...) {
			if count := countLeft(t, q, user); count != -1 {
				t.Errorf("QueueLeft(%.300q, %q) is %d", []any{q}, user, count)
			}
		}
		for _, id := range append(idsOf(q), notIds()...) {
			for _, user := range []string{"amy", "bob", ""} {
				takeCopy(t, q, id, user)
			}
		}
	}
}

func TestP147WithoutAnItemAndWithOneTwice(t *testing.T) {
	for _, q := range queues() {
		for at := range q.Items {
			if x := (impl.Queue{Next: q.Next, Items: slices.Delete(slices.Clone(q.Items), at, at+1)}); !impl.QueueValid(x) {
				t.Errorf("QueueValid(%q) does not hold", []any{x})
			}
		}
		for _, x := range withItemTwice(q) {
			if impl.QueueValid(x) {
				t.Errorf("QueueValid(%q) holds", []any{x})
			}
		}
	}
}

// queueName returns a text that is another one for each queue.
func queueName(q impl.Queue) string {
	name := strconv.Itoa(q.Next)
	for _, item := range q.Items {
		name += "|" + strconv.Itoa(item.Id) + item.From + ">" + strings.Join(item.Left, ",") + ":" + item.Text
	}
	return name
}

// All queues to which adding and taking lead from a few ones.
func TestQueuesThatAreReached(t *testing.T) {
	added := []impl.Letter{{From: "amy", To: []string{"bob", "amy"}, Text: "one"}, {From: "bob", To: []string{"amy"}}}
	seen := map[string]bool{}
	five := impl.Queue{Next: 97}
	for id := 1; id < 6; id++ {
		five.Items = append(five.Items, itemOf(10*id, "amy", "bob", "x"))
	}
	todo := []impl.Queue{{Next: 96}, {Next: 99, Items: leftQueues()[83].Items}, five}
	fullOnes := 0
	for len(todo) > 0 {
		q := todo[0]
		todo = todo[1:]
		name := queueName(q)
		if seen[name] {
			continue
		}
		seen[name] = true
		if !impl.QueueValid(q) {
			t.Errorf("QueueValid(%q) does not hold", []any{q})
		}
		if len(q.Items) == 6 && q.Next < 100 {
			fullOnes++
		}
		for _, x := range added {
			next, _ := addLetter(t, q, x)
			todo = append(todo, next)
		}
		for _, c := range append(copiesOf(q), letterCopy{id: 1, user: "amy"}) {
			next, _, _ := takeCopy(t, q, c.id, c.user)
			todo = append(todo, next)
		}
	}
	if len(seen) < 1000 || fullOnes < 10 {
		t.Errorf("only %d queues are reached, of which %d are full", len(seen), fullOnes)
	}
}

// Long runs of adding and taking, in which each copy is taken once only.
func TestLongRunsOfQueues(t *testing.T) {
	state := 1
	random := func(n int) int {
		state = (state*75 + 74) % 65537
		return state / 3 % n
	}
	all := append(letters(), fewLetters()...)
	for range 100 {
		q := impl.Queue{Next: 1}
		given, taken := 0, 0
		for q.Next <= 99 {
			list := copiesOf(q)
			if x := all[random(len(all))]; random(3) == 0 {
				next, ok := addLetter(t, q, x)
				if ok {
					given += len(x.To)
				}
				q = next
			} else if len(list) > 0 {
				c := list[random(len(list))]
				q, _, _ = takeCopy(t, q, c.id, c.user)
				taken++
			}
		}
		if given-taken != len(copiesOf(q)) {
			t.Errorf("of %d copies, %d were taken, and %d are left", given, taken, len(copiesOf(q)))
		}
	}
}

// queueArguments are what the functions of queues take in slices, and a copy.
type queueArguments struct {
	q    impl.Queue
	x    impl.Letter
	id   int
	user string
}

func queueOnly(q impl.Queue, _ string, _ bool) impl.Queue {
	return q
}

// queueCalls has a call of each function for each kind of its results.
var queueCalls = map[string]func(a queueArguments) impl.Queue{
	"QueueAdd": func(a queueArguments) impl.Queue {
		q, _ := impl.QueueAdd(a.q, a.x)
		return q
	},
	"QueueAdd of no letter": func(a queueArguments) impl.Queue {
		q, _ := impl.QueueAdd(a.q, impl.Letter{To: a.x.To})
		return q
	},
	"QueueTake": func(a queueArguments) impl.Queue {
		return queueOnly(impl.QueueTake(a.q, a.id, a.user))
	},
	"QueueTake of no item": func(a queueArguments) impl.Queue {
		return queueOnly(impl.QueueTake(a.q, 0, a.user))
	},
	"QueueTake for nobody": func(a queueArguments) impl.Queue {
		return queueOnly(impl.QueueTake(a.q, a.id, ""))
	},
	"QueueValid and QueueLeft": func(a queueArguments) impl.Queue {
		if !impl.QueueValid(a.q) || !impl.LetterValid(a.x) {
			return impl.Queue{}
		}
		return impl.Queue{Next: impl.QueueLeft(a.q, a.user)}
	},
}

// roomyQueue returns a copy with room behind the items and behind the receivers of each, in which others lie.
func roomyQueue(q impl.Queue) impl.Queue {
	x := impl.Queue{Next: q.Next, Items: roomy(q.Items, impl.Item{Id: 77, From: "other", Text: "other", Left: []string{"other", "others"}})}
	for i, item := range x.Items {
		x.Items[i].Left = roomy(item.Left, "other")
	}
	return x
}

// keep returns a copy of all arguments, and of all that lies within their capacity.
func (a queueArguments) keep() queueArguments {
	kept := queueArguments{q: impl.Queue{Next: a.q.Next, Items: slices.Clone(whole(a.q.Items))}, x: impl.Letter{To: slices.Clone(whole(a.x.To))}}
	for i, item := range kept.q.Items {
		kept.q.Items[i].Left = slices.Clone(whole(item.Left))
	}
	return kept
}

// isAs reports whether the arguments, and all that lies within their capacity, are as they were kept.
func (a queueArguments) isAs(kept queueArguments) bool {
	now := a.keep()
	return sameQueue(now.q, kept.q) && slices.Equal(now.x.To, kept.x.To)
}

// overwriteQueue changes all that lies within the capacity of the items and of their receivers.
func overwriteQueue(q impl.Queue) {
	for i, item := range whole(q.Items) {
		overwriteTexts(item.Left)
		whole(q.Items)[i] = impl.Item{Id: -1, From: "overwritten", Text: "overwritten", Left: []string{"overwritten"}}
	}
}

// queueArgumentLists have each copy of a few queues, valid ones and others, with each of a few letters.
func queueArgumentLists() []queueArguments {
	var list []queueArguments
	for _, q := range slices.Concat(fewQueues(), fewNotQueues(), []impl.Queue{queueWith(80, 10, 20, 30, 40, 50, 60)}) {
		for i, c := range append(copiesOf(q)[:min(20, len(copiesOf(q)))], letterCopy{id: 5, user: "amy"}) {
			list = append(list, queueArguments{q: q, x: fewLetters()[i%8], id: c.id, user: c.user})
		}
		list = append(list, queueArguments{q: q, x: fewLetters()[5], id: 3, user: "bob"}, queueArguments{q: q, x: impl.Letter{From: "amy", To: []string{"bob", "bob"}}, id: 3, user: "bob"})
	}
	return list
}

func TestQueuesKeepTheirMemory(t *testing.T) {
	for name, call := range queueCalls {
		for _, plain := range queueArgumentLists() {
			a := plain
			a.q, a.x.To = roomyQueue(plain.q), roomy(plain.x.To, "other")
			before := a.keep()
			first, second := call(a), call(a)
			want := queueClone(second)
			if !sameQueue(first, second) || !a.isAs(before) {
				t.Errorf("%s changed its arguments %.300q", name, []any{plain.q, plain.x})
			}
			overwriteQueue(first)
			if !sameQueue(second, want) || !a.isAs(before) {
				t.Errorf("a result of %s shares memory with the arguments %.300q or with another result", name, []any{plain.q, plain.x})
			}
			overwriteQueue(a.q)
			overwriteTexts(a.x.To)
			if !sameQueue(second, want) {
				t.Errorf("a result of %s changes with the arguments %.300q", name, []any{plain.q, plain.x})
			}
		}
	}
}

// Each list of receivers is overwritten, up to its capacity, by another name; none of the others changes then.
func TestItemsOfAResultShareNoMemory(t *testing.T) {
	same := []string{"dan", "amy", "bob"}
	shared := impl.Queue{Next: 30}
	for id := 10; id < 15; id++ {
		shared.Items = append(shared.Items, impl.Item{Id: id, From: "amy", Left: same})
	}
	list := queueArgumentLists()
	for _, id := range []int{0, 10, 12, 14} {
		list = append(list, queueArguments{q: shared, x: impl.Letter{From: "amy", To: same}, id: id, user: "amy"})
	}
	for name, call := range queueCalls {
		for _, a := range list {
			q := call(a)
			for i, item := range q.Items {
				for at := range whole(item.Left) {
					whole(item.Left)[at] = "item" + strconv.Itoa(i)
				}
			}
			for i, item := range q.Items {
				if slices.ContainsFunc(whole(item.Left), func(name string) bool { return name != "item"+strconv.Itoa(i) }) {
					t.Errorf("the items of a result of %s share memory", name)
				}
			}
		}
	}
	if !slices.Equal(same, []string{"dan", "amy", "bob"}) {
		t.Errorf("the receivers became %q", same)
	}
}

func TestQueuesOfNilAndEmptySlices(t *testing.T) {
	full := queueWith(100, 94, 95, 96, 97, 98, 99)
	for name, call := range queueCalls {
		for _, next := range []int{-1, 0, 1, 50, 99, 100, 101} {
			for _, x := range append(fewLetters(), impl.Letter{}, impl.Letter{From: "amy"}) {
				want := call(queueArguments{q: impl.Queue{Next: next}, x: x, id: 94, user: "bob"})
				for _, empty := range [][]impl.Item{{}, make([]impl.Item, 0, 5), full.Items[:0]} {
					if q := call(queueArguments{q: impl.Queue{Next: next, Items: empty}, x: x, id: 94, user: "bob"}); !sameQueue(q, want) {
						t.Errorf("%s is not the same without items and with Next %d: %q", name, next, []any{q})
					}
				}
			}
		}
	}
	if !sameQueue(full, queueWith(100, 94, 95, 96, 97, 98, 99)) {
		t.Errorf("the full queue became %q", []any{full})
	}
}

func TestQueuesOfNobody(t *testing.T) {
	for _, nobody := range [][]string{nil, {}, make([]string, 0, 5), strings.Fields("amy bob")[:0]} {
		for _, q := range fewQueues() {
			if next, ok := addLetter(t, q, impl.Letter{From: "amy", To: nobody, Text: "x"}); ok || !sameQueue(next, impl.Queue{}) {
				t.Errorf("QueueAdd of a letter to nobody is %q, %v", []any{next}, ok)
			}
			for at, item := range q.Items {
				expectNoQueue(t, withItem(q, at, impl.Item{Id: item.Id, From: item.From, Text: item.Text, Left: nobody}))
			}
		}
	}
}
