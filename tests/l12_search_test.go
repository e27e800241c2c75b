package tests

import (
	"math"
	"slices"
	"strconv"
	"strings"
	"testing"

	"loop.example/mailhost/impl"
)

// A second definition of keys, against which the program is held: it counts the nodes of whole trees, reads the words
// of a text without a tree, and finds lists of places instead of single messages.

// nodesOf returns a node and all nodes below it, each behind the one that has it.
func nodesOf(k impl.Key) []impl.Key {
	list := []impl.Key{k}
	for _, key := range k.Keys {
		list = append(list, nodesOf(key)...)
	}
	return list
}

// isNode reports whether a node, for itself, is as its kind demands.
func isNode(k impl.Key) bool {
	noFlag, noText, noSet, noKeys := k.Flag == 0, k.Text == "", len(k.Set) == 0, len(k.Keys) == 0
	switch k.Kind {
	case 0:
		return noFlag && noText && noSet && noKeys
	case 1:
		return slices.Contains([]int{1, 2, 4, 8, 16}, k.Flag) && noText && noSet && noKeys
	case 2:
		return noFlag && isName(k.Text) && noSet && noKeys
	case 3, 4:
		return noFlag && noText && isSet(k.Set) && noKeys
	case 5:
		return noFlag && noText && noSet && len(k.Keys) == 1
	case 6, 7:
		return noFlag && noText && noSet && len(k.Keys) == 2
	}
	return false
}

func isKey(k impl.Key) bool {
	list := nodesOf(k)
	return len(list) <= 9 && !slices.ContainsFunc(list, func(n impl.Key) bool { return !isNode(n) })
}

func numberWord(n int) string {
	if n == 0 {
		return "*"
	}
	return strconv.Itoa(n)
}

func setWord(set []impl.Span) string {
	var parts []string
	for _, s := range set {
		numbers := []string{numberWord(s.Low), numberWord(s.High)}
		parts = append(parts, strings.Join(slices.Compact(numbers), ":"))
	}
	return strings.Join(parts, ",")
}

// keyText returns the text of a valid key.
func keyText(k impl.Key) string {
	var words []string
	for _, n := range nodesOf(k) {
		words = append(words, []string{"all", "", "text", "at", "uid", "not", "and", "or"}[n.Kind])
		switch n.Kind {
		case 1:
			words[len(words)-1] = strings.ToLower(namesOf(n.Flag)[0])
		case 2:
			words = append(words, n.Text)
		case 3, 4:
			words = append(words, setWord(n.Set))
		}
	}
	return strings.Join(words, " ")
}

func isSetWord(word string) bool {
	return setPattern.MatchString(word) && setWord(setOf(word)) == word
}

// isKeyText counts the nodes of a text, and how many keys are needed yet.
func isKeyText(text string) bool {
	words := append(strings.Split(text, " "), "")
	last := len(words) - 1
	nodes, needed := 0, 1
	i := 0
	for ; i < last && needed > 0; i++ {
		nodes++
		switch words[i] {
		case "all", "seen", "answered", "flagged", "deleted", "draft":
			needed--
		case "text":
			i++
			needed--
			if !isName(words[i]) {
				return false
			}
		case "at", "uid":
			i++
			needed--
			if !isSetWord(words[i]) {
				return false
			}
		case "not":
		case "and", "or":
			needed++
		default:
			return false
		}
	}
	return needed == 0 && i == last && nodes <= 9
}

// containsBytes reports whether a part begins anywhere in a text.
func containsBytes(text string, part string) bool {
	for i := range text {
		if strings.HasPrefix(text[i:], part) {
			return true
		}
	}
	return false
}

func placesWith(b impl.Box, has func(place int, m impl.Mail) bool) []int {
	var list []int
	for i, m := range b.Mail {
		if has(i+1, m) {
			list = append(list, i+1)
		}
	}
	return list
}

// found returns the places that a valid key has in a valid mailbox.
func found(b impl.Box, k impl.Key) []int {
	var lists [][]int
	for _, key := range k.Keys {
		lists = append(lists, found(b, key))
	}
	var numbers []int
	if k.Kind == 3 {
		numbers = numbersOf(k.Set, len(b.Mail))
	} else if k.Kind == 4 && len(b.Mail) > 0 {
		numbers = numbersOf(k.Set, slices.Max(uidsOf(b)))
	}
	return placesWith(b, func(place int, m impl.Mail) bool {
		switch k.Kind {
		case 1:
			return hasFlag(m.Flags, k.Flag)
		case 2:
			return containsBytes(m.Text, k.Text)
		case 3:
			return slices.Contains(numbers, place)
		case 4:
			return slices.Contains(numbers, m.Uid)
		case 5:
			return !slices.Contains(lists[0], place)
		case 6:
			return slices.Contains(lists[0], place) && slices.Contains(lists[1], place)
		case 7:
			return slices.Contains(append(slices.Clone(lists[0]), lists[1]...), place)
		}
		return true
	})
}

func sameKey(a impl.Key, b impl.Key) bool {
	return a.Kind == b.Kind && a.Flag == b.Flag && a.Text == b.Text && slices.Equal(a.Set, b.Set) && slices.EqualFunc(a.Keys, b.Keys, sameKey)
}

// keyClone returns a copy of a key, with copies of all nested lists.
func keyClone(k impl.Key) impl.Key {
	k.Set = slices.Clone(k.Set)
	k.Keys = slices.Clone(k.Keys)
	for i, key := range k.Keys {
		k.Keys[i] = keyClone(key)
	}
	return k
}

func allKey() impl.Key {
	return impl.Key{Kind: impl.KeyAll}
}

func hasKey(flag int) impl.Key {
	return impl.Key{Kind: impl.KeyHas, Flag: flag}
}

func textKey(text string) impl.Key {
	return impl.Key{Kind: impl.KeyText, Text: text}
}

func placeKey(text string) impl.Key {
	return impl.Key{Kind: impl.KeyPlace, Set: setOf(text)}
}

func uidKey(text string) impl.Key {
	return impl.Key{Kind: impl.KeyUid, Set: setOf(text)}
}

func notKey(k impl.Key) impl.Key {
	return impl.Key{Kind: impl.KeyNot, Keys: []impl.Key{k}}
}

func andKey(first impl.Key, second impl.Key) impl.Key {
	return impl.Key{Kind: impl.KeyAnd, Keys: []impl.Key{first, second}}
}

func orKey(first impl.Key, second impl.Key) impl.Key {
	return impl.Key{Kind: impl.KeyOr, Keys: []impl.Key{first, second}}
}

// fewLeaves are valid keys of a single node, each kind among them.
func fewLeaves() []impl.Key {
	return []impl.Key{
		hasKey(1), textKey("bob"), placeKey("1"), uidKey("*"), allKey(), hasKey(8), placeKey("2:*,1"), textKey("to"), uidKey("5:20"), hasKey(16), uidKey("9,3:1,*:*,7:*"), textKey("all"), placeKey("*:2"),
		hasKey(4), textKey("o"), placeKey("1,3,5,7,9,*"), hasKey(2), uidKey("99:8"), textKey("hello"), textKey("not"),
	}
}

// leaves are valid keys of a single node: all flags, names that are words of keys, too, and all kinds of sets.
func leaves() []impl.Key {
	list := fewLeaves()
	for _, name := range append(names(), "all", "seen", "draft", "text", "at", "uid", "not", "and", "or", "1", "99", "bo", "b", "obtobo", "xxxxxxxx") {
		list = append(list, textKey(name))
	}
	for _, set := range sets() {
		list = append(list, impl.Key{Kind: impl.KeyPlace, Set: set}, impl.Key{Kind: impl.KeyUid, Set: set})
	}
	return list
}

// shapes returns a key of KeyAll, KeyNot and KeyAnd for each way in which that many nodes can be nested.
func shapes(count int) []impl.Key {
	if count == 1 {
		return []impl.Key{allKey()}
	}
	var list []impl.Key
	for _, k := range shapes(count - 1) {
		list = append(list, notKey(k))
	}
	for left := 1; left < count-1; left++ {
		for _, first := range shapes(left) {
			for _, second := range shapes(count - 1 - left) {
				list = append(list, andKey(keyClone(first), keyClone(second)))
			}
		}
	}
	return list
}

// dressed returns a key of the same shape with other leaves and with KeyOr beside KeyAnd; state chooses them.
func dressed(k impl.Key, state *int) impl.Key {
	few := fewLeaves()
	*state = (*state*75 + 74) % 65537
	chosen := *state
	if len(k.Keys) == 0 {
		return few[chosen%len(few)]
	}
	if k.Kind == impl.KeyAnd && chosen%2 == 0 {
		k.Kind = impl.KeyOr
	}
	keys := k.Keys
	k.Keys = nil
	for _, key := range keys {
		k.Keys = append(k.Keys, dressed(key, state))
	}
	return k
}

// smallKeys returns all keys of that many nodes with a few leaves.
func smallKeys(count int) []impl.Key {
	if count == 1 {
		return []impl.Key{hasKey(1), placeKey("2:*"), uidKey("1:7")}
	}
	var list []impl.Key
	for _, k := range smallKeys(count - 1) {
		list = append(list, notKey(k))
	}
	for left := 1; left < count-1; left++ {
		for _, first := range smallKeys(left) {
			for _, second := range smallKeys(count - 1 - left) {
				list = append(list, andKey(first, second), orKey(first, second))
			}
		}
	}
	return list
}

// nestedKeys are valid: of two to MaxKeys nodes, in all shapes.
func nestedKeys() []impl.Key {
	var list []impl.Key
	state := 1
	for count := 2; count <= 9; count++ {
		for _, k := range shapes(count) {
			list = append(list, dressed(k, &state), dressed(k, &state))
		}
	}
	for count := 2; count <= 4; count++ {
		list = append(list, smallKeys(count)...)
	}
	return list
}

func keys() []impl.Key {
	return append(leaves(), nestedKeys()...)
}

// someKeys are about count of all valid keys, spread over them.
func someKeys(count int) []impl.Key {
	var list []impl.Key
	all := keys()
	step := max(1, len(all)/count)
	for i := 0; i < len(all); i += step {
		list = append(list, all[i])
	}
	return list
}

// replaced returns all keys in which one node of a key, with all below it, has given way to one of its changes.
func replaced(k impl.Key, changes func(impl.Key) []impl.Key) []impl.Key {
	list := changes(keyClone(k))
	for i, key := range k.Keys {
		for _, other := range replaced(key, changes) {
			x := keyClone(k)
			x.Keys[i] = other
			list = append(list, x)
		}
	}
	return list
}

// notKinds are no kinds of keys; some are in their last bits.
func notKinds() []int {
	return []int{math.MinInt, math.MinInt + 5, -1 << 32, -256, -8, -7, -2, -1, 8, 9, 10, 15, 16, 31, 255, 256, 257, 262, 1 << 32, 1<<32 + 1, 1<<32 + 6, math.MaxInt - 1, math.MaxInt}
}

// withOtherKinds have each kind that is none.
func withOtherKinds(k impl.Key) []impl.Key {
	var list []impl.Key
	for _, kind := range notKinds() {
		k.Kind = kind
		list = append(list, k)
	}
	return list
}

// withOtherFields have one field that the kind of the key does not have, with a valid value or with an invalid one.
func withOtherFields(k impl.Key) []impl.Key {
	var list []impl.Key
	add := func(change func(x *impl.Key)) {
		x := keyClone(k)
		change(&x)
		list = append(list, x)
	}
	if k.Kind != impl.KeyHas {
		for _, flag := range []int{1, 16, 31, -1, 32, math.MinInt, 1 << 32} {
			add(func(x *impl.Key) { x.Flag = flag })
		}
	}
	if k.Kind != impl.KeyText {
		for _, text := range []string{"bob", "a", "all", "B", " ", "\x00", strings.Repeat("x", 1000)} {
			add(func(x *impl.Key) { x.Text = text })
		}
	}
	if k.Kind != impl.KeyPlace && k.Kind != impl.KeyUid {
		for _, set := range [][]impl.Span{{{}}, {{Low: 1, High: 1}}, setOf("1:5,*"), {{Low: -1, High: 100}}, make([]impl.Span, 7)} {
			add(func(x *impl.Key) { x.Set = set })
		}
	}
	return list
}

// withOtherKeys have too few keys or too many: each kind has one number of keys only.
func withOtherKeys(k impl.Key) []impl.Key {
	var list []impl.Key
	for _, key := range []impl.Key{allKey(), textKey("bob"), {Kind: -1}, notKey(allKey())} {
		for front := range len(k.Keys) + 1 {
			x := keyClone(k)
			x.Keys = slices.Insert(x.Keys, front, key)
			list = append(list, x)
		}
		x := keyClone(k)
		x.Keys = append(x.Keys, key, key)
		list = append(list, x)
	}
	for n := range k.Keys {
		x := keyClone(k)
		x.Keys = x.Keys[:n]
		y := keyClone(k)
		y.Keys = y.Keys[n+1:]
		list = append(list, x, y)
	}
	return list
}

// badLeaves are invalid: a flag, a text or a set that is none, or that is missing.
func badLeaves() []impl.Key {
	list := []impl.Key{{Kind: impl.KeyNot}, {Kind: impl.KeyAnd}, {Kind: impl.KeyOr}}
	for n := -40; n <= 300; n++ {
		if !slices.Contains([]int{1, 2, 4, 8, 16}, n) {
			list = append(list, hasKey(n))
		}
	}
	for _, n := range notFlags() {
		list = append(list, hasKey(n))
	}
	for _, text := range append(notNames(), "bob all", "bob ", " bob", "bob\n", "*", "1:2") {
		list = append(list, textKey(text))
	}
	for _, set := range notSets() {
		list = append(list, impl.Key{Kind: impl.KeyPlace, Set: set}, impl.Key{Kind: impl.KeyUid, Set: set})
	}
	return list
}

// fewBadLeaves are one or two for each fault.
func fewBadLeaves() []impl.Key {
	return []impl.Key{
		{Kind: -1}, {Kind: 8}, hasKey(0), hasKey(3), hasKey(32), hasKey(-1), textKey(""), textKey("Bob"), textKey("abcdefghi"), textKey("a b"),
		{Kind: impl.KeyPlace}, {Kind: impl.KeyUid}, placeKey("1:100"), uidKey("100"), {Kind: impl.KeyPlace, Set: make([]impl.Span, 7)}, {Kind: impl.KeyUid, Set: []impl.Span{{Low: 1, High: -1}}},
		{Flag: 1}, {Text: "a"}, {Set: setOf("1")}, {Keys: []impl.Key{{}}}, {Kind: impl.KeyNot}, {Kind: impl.KeyAnd, Keys: []impl.Key{{}}}, {Kind: impl.KeyOr, Keys: []impl.Key{{}, {}, {}}},
	}
}

// notKeys are invalid, with the fault in any node.
func notKeys() []impl.Key {
	list := badLeaves()
	for _, k := range slices.Concat(fewLeaves(), someKeys(60)) {
		list = append(list, replaced(k, withOtherKinds)...)
		list = append(list, replaced(k, withOtherFields)...)
		list = append(list, replaced(k, withOtherKeys)...)
		list = append(list, replaced(k, func(impl.Key) []impl.Key { return fewBadLeaves() })...)
	}
	return append(list, longKeys()...)
}

// longKeys have too many nodes, and no other fault: one more than MaxKeys in all shapes, and many more.
func longKeys() []impl.Key {
	var list []impl.Key
	state := 1
	for _, k := range shapes(10) {
		list = append(list, dressed(k, &state))
	}
	k := allKey()
	for count := 2; count < 40; count++ {
		k = notKey(k)
		if count >= 10 {
			list = append(list, k)
		}
	}
	left, right := allKey(), allKey()
	for range 20 {
		left, right = andKey(left, allKey()), orKey(allKey(), right)
		if len(nodesOf(left)) >= 10 {
			list = append(list, left, right)
		}
	}
	return list
}

// endlessKeys are too large for a walk through all nodes: they contain themselves, or are nested very deep, or have
// more nodes than can be counted, or very many keys. They must not be printed.
func endlessKeys() []impl.Key {
	var list []impl.Key
	for _, kind := range []int{impl.KeyNot, impl.KeyAnd, impl.KeyOr} {
		for count := 1; count <= 3; count++ {
			inner := make([]impl.Key, count)
			for i := range inner {
				inner[i] = impl.Key{Kind: kind, Keys: inner}
			}
			late := append(slices.Repeat([]impl.Key{allKey()}, count-1), inner[0])
			list = append(list, inner[0], impl.Key{Kind: kind, Keys: late})
		}
		list = append(list, impl.Key{Kind: kind, Keys: make([]impl.Key, 1000000)})
	}
	deep, wide := allKey(), allKey()
	for range 1000000 {
		deep = notKey(deep)
	}
	for range 70 {
		wide = impl.Key{Kind: impl.KeyOr, Keys: []impl.Key{wide, wide}}
	}
	return append(list, deep, wide, andKey(wide, deep), impl.Key{Kind: impl.KeyAll, Keys: []impl.Key{wide}}, impl.Key{Kind: -1, Keys: []impl.Key{deep}})
}

// searchTexts have the text bob as a whole, ahead, behind, within, twice, overlapping a part of it, in other letters, and not at all.
func searchTexts() []string {
	return []string{
		"bob", "bob to", "to bob", "xbobx", "bobob", "bbob", "bo", "ob", "bo b", "Bob", "BOB", "b\x00ob", "\xffbob\xff", "", "o", "xxxxxxxxxxxxxxxxxbob", "bobxxxxxxxxxxxxxxxxx", "to all", "hello", "not hello", "bobo", "obbobo", "hellohello", "1 99", "bób",
	}
}

// textBoxes have all of these texts, at each place of a mailbox.
func textBoxes() []impl.Box {
	var list []impl.Box
	texts := searchTexts()
	for start := range texts {
		b := impl.Box{Next: 100}
		for i := range 1 + start%10 {
			b.Mail = append(b.Mail, impl.Mail{Uid: 3*i + start%4 + 1, Flags: (start + 5*i) % 32, Text: texts[(start+i)%len(texts)]})
		}
		list = append(list, b)
	}
	return list
}

// searchBoxes are valid mailboxes, with the least and with a greater Next.
func searchBoxes() []impl.Box {
	list := append([]impl.Box{{Next: 1}, {Next: 50, Mail: []impl.Mail{}}, {Next: 100}}, textBoxes()...)
	for i, uids := range uidLists() {
		if len(uids) > 0 {
			last := uids[len(uids)-1]
			list = append(list, boxWith(last+1+i%2*(99-last), uids...))
		}
	}
	return append(list, deletedBoxes(3)...)
}

// fewBoxes are some of these, of all sizes.
func fewBoxes() []impl.Box {
	var list []impl.Box
	for i, b := range searchBoxes() {
		if i%4 == 0 {
			list = append(list, b)
		}
	}
	return list
}

// expectKey checks KeyParse of a text, which may be invalid.
func expectKey(t *testing.T, text string) (impl.Key, bool) {
	t.Helper()
	k, ok := impl.KeyParse(text)
	if ok != isKeyText(text) || ok && (!isKey(k) || keyText(k) != text) || !ok && !sameKey(k, impl.Key{}) {
		t.Errorf("KeyParse(%.80q) is %v, %v", text, k, ok)
	}
	return k, ok
}

// expectNoKey checks that a text is refused, without a result.
func expectNoKey(t *testing.T, text string) {
	t.Helper()
	if _, ok := expectKey(t, text); ok {
		t.Errorf("KeyParse(%.80q) succeeds", text)
	}
}

// expectFound checks SearchBox of a valid mailbox and a valid key.
func expectFound(t *testing.T, b impl.Box, k impl.Key, want []int) []int {
	t.Helper()
	places := impl.SearchBox(b, k)
	if !slices.Equal(places, want) {
		t.Errorf("SearchBox(%v, %q) is %v, not %v", b, keyText(k), places, want)
	}
	return places
}

// expectInvalid checks that all functions refuse a key.
func expectInvalid(t *testing.T, b impl.Box, k impl.Key) {
	t.Helper()
	valid, text, places := impl.KeyValid(k), impl.KeyFormat(k), impl.SearchBox(b, k)
	if valid || text != "" || len(places) != 0 {
		t.Errorf("for the invalid key %v, KeyValid is %v, KeyFormat is %q, and SearchBox is %v", k, valid, text, places)
	}
}

func TestConstantsOfSearch(t *testing.T) {
	kinds := []int{impl.KeyAll, impl.KeyHas, impl.KeyText, impl.KeyPlace, impl.KeyUid, impl.KeyNot, impl.KeyAnd, impl.KeyOr}
	if impl.MaxKeys != 9 || !slices.Equal(kinds, []int{0, 1, 2, 3, 4, 5, 6, 7}) {
		t.Errorf("the limit is %d, and the kinds are %v", impl.MaxKeys, kinds)
	}
}

func TestP76KeysOfTexts(t *testing.T) {
	for _, k := range keys() {
		text := impl.KeyFormat(k)
		if text == "" || text != keyText(k) {
			t.Errorf("KeyFormat(%v) is %q", k, text)
		}
		if again, ok := impl.KeyParse(text); !ok || !sameKey(again, k) {
			t.Errorf("KeyParse(%q) is %v, %v", text, again, ok)
		}
	}
}

func TestP76NamedTexts(t *testing.T) {
	for text, k := range map[string]impl.Key{
		"all": allKey(), "seen": hasKey(1), "answered": hasKey(2), "flagged": hasKey(4), "deleted": hasKey(8), "draft": hasKey(16),
		"text bob": textKey("bob"), "text all": textKey("all"), "text text": textKey("text"), "text 12345678": textKey("12345678"), "text 7": textKey("7"),
		"at 1": placeKey("1"), "at *": placeKey("*"), "at 3:*,7": placeKey("3:*,7"), "at *:3": placeKey("*:3"), "uid 1": uidKey("1"), "uid *": uidKey("*"), "uid 99:98,*,1,2,3,4": uidKey("99:98,*,1,2,3,4"),
		"not all": notKey(allKey()), "not not seen": notKey(notKey(hasKey(1))), "not text not": notKey(textKey("not")),
		"and all seen": andKey(allKey(), hasKey(1)), "and seen all": andKey(hasKey(1), allKey()), "or all seen": orKey(allKey(), hasKey(1)), "or seen all": orKey(hasKey(1), allKey()),
		"and text and or all draft":                                andKey(textKey("and"), orKey(allKey(), hasKey(16))),
		"or and seen text bob uid 8":                               orKey(andKey(hasKey(1), textKey("bob")), uidKey("8")),
		"and seen or text bob uid 8":                               andKey(hasKey(1), orKey(textKey("bob"), uidKey("8"))),
		"and not seen not at 1:2":                                  andKey(notKey(hasKey(1)), notKey(placeKey("1:2"))),
		"not not not not not not not not all":                      notKey(notKey(notKey(notKey(notKey(notKey(notKey(notKey(allKey())))))))),
		"and and and and all seen draft deleted flagged":           andKey(andKey(andKey(andKey(allKey(), hasKey(1)), hasKey(16)), hasKey(8)), hasKey(4)),
		"or all or seen or draft or deleted flagged":               orKey(allKey(), orKey(hasKey(1), orKey(hasKey(16), orKey(hasKey(8), hasKey(4))))),
		"or and at 1 uid 2 and text a or at 3 uid 4":               orKey(andKey(placeKey("1"), uidKey("2")), andKey(textKey("a"), orKey(placeKey("3"), uidKey("4")))),
		"and or text text text at or text uid or text not text or": andKey(orKey(textKey("text"), textKey("at")), orKey(textKey("uid"), orKey(textKey("not"), textKey("or")))),
	} {
		if got, ok := expectKey(t, text); !ok || !sameKey(got, k) {
			t.Errorf("KeyParse(%q) is %v, %v", text, got, ok)
		}
		if got := impl.KeyFormat(k); got != text || !impl.KeyValid(k) {
			t.Errorf("KeyFormat(%v) is %q", k, got)
		}
	}
}

func TestP76TextsOfInvalidKeys(t *testing.T) {
	b := boxWith(50, 3, 7, 20)
	for _, k := range notKeys() {
		if isKey(k) {
			t.Fatalf("%v is no example of an invalid key", k)
		}
		expectInvalid(t, b, k)
	}
}

// goodKeyTexts are the texts of valid keys.
func goodKeyTexts() []string {
	var list []string
	for _, k := range keys() {
		list = append(list, keyText(k))
	}
	return list
}

// badKeyTexts are invalid: wrong blanks, words that are missing, words too many, and words that are none.
func badKeyTexts() []string {
	list := []string{
		"", " ", "  ", "\n", "\x00", "\xff", "()", "(all)", "\"all\"", "al", "alle", "All", "ALL", "aLL", "allall", "all,all", "all\tall", "any", "none", "has seen", "flag seen", "key", "keyall", "KeyAll", "0", "1", "*", "1:2", "7",
		"Seen", "SEEN", "seeN", "Answered", "Flagged", "Deleted", "Draft", "(Seen)", "(seen)", "see", "seenn", "seen draft", "unseen", "recent", "drafts", "delete", "answer", "flags", "FlagSeen",
		"text", "text ", "text  ", "text  bob", "text bob ", "textbob", "text\tbob", "Text bob", "TEXT bob", "tex bob", "text Bob", "text boB", "text bob bob", "text abcdefghi", "text *", "text 1:2", "text 1,2", "text -", "text \"bob\"", "text bob\n", "text é", "text \xff", "text \x00", "bob", "body bob",
		"at", "at ", "at  1", "at 1 ", "at1", "At 1", "AT 1", "at\t1", "at 0", "at 01", "at 100", "at -1", "at 1 2", "at 1,", "at ,1", "at 1:", "at :1", "at 1,,2", "at 1:2:3", "at bob", "at all", "at seen", "at at", "at 1, 2", "at 1 ,2", "at 1 : 2", "place 1", "a 1", "at 1,2,3,4,5,6,7",
		"uid", "uid ", "uid  1", "uid 1 ", "uid1", "Uid 1", "UID 1", "uid 0", "uid 01", "uid 100", "uid -1", "uid 1 2", "uid bob", "uid all", "uids 1", "ui 1", "uid uid", "uid 1,2,3,4,5,6,7",
		"at 1:1", "at *:*", "at 99:99", "at 2,1:1", "at 1:1,2", "uid 1:1", "uid *:*", "uid 5:5,6", "uid 1,*:*", "not at 7:7", "and all uid 7:7", "or uid 7:7 all",
		"not", "not ", "not  all", "Not all", "NOT all", "notall", "not all all", "not not", "not bob", "not seen draft", "not and all", "not text", "not at", "!all",
		"and", "and ", "and all", "and all ", "and  all all", "and all  all", "and all all ", "And all all", "AND all all", "andall all", "and all all all", "and all bob", "and bob all", "all and all", "all and", "and and all all", "and not all", "and all not", "and text bob", "and text all", "&& all all", "nand all all",
		"or", "or ", "or all", "or all ", "or  all all", "or all  all", "or all all ", "Or all all", "OR all all", "orall all", "or all all all", "or all bob", "or bob all", "all or all", "all or", "or or all all", "or not all", "or all not", "or text bob", "or at 1", "xor all all", "nor all all",
		"or and seen text bob uid", "or and seen text uid 8", "or and seen bob uid 8", "or and text bob uid 8", "or and seen text bob uid 8 all", "and seen text bob uid 8", "or and seen  text bob uid 8", "or and seen text  bob uid 8", "or and seen text bob  uid 8", "or And seen text bob uid 8",
	}
	for _, k := range longKeys() {
		list = append(list, keyText(k))
	}
	return list
}

func TestP77TextsOfParsedKeys(t *testing.T) {
	for _, text := range goodKeyTexts() {
		if k, ok := expectKey(t, text); !ok || impl.KeyFormat(k) != text || !impl.KeyValid(k) {
			t.Errorf("KeyParse(%q) is %v, %v", text, k, ok)
		}
	}
	for _, text := range badKeyTexts() {
		expectNoKey(t, text)
	}
}

// TestP77ShortTexts tries all lists of a few words, in every order.
func TestP77ShortTexts(t *testing.T) {
	for _, c := range []struct {
		words []string
		most  int
	}{
		{[]string{"all", "seen", "draft", "not", "and", "or", "text", "at", "uid", "bob", "1", "*", "1:1", "2:*", "Bob", ""}, 4},
		{[]string{"all", "not", "and", "text", "at", "7"}, 6},
		{[]string{"seen", "or", "not"}, 9},
		{[]string{"all", "and"}, 13},
	} {
		for _, digits := range shortTexts("0123456789abcdef"[:len(c.words)], c.most) {
			var words []string
			for _, digit := range digits {
				words = append(words, c.words[strings.IndexRune("0123456789abcdef", digit)])
			}
			expectKey(t, strings.Join(words, " "))
		}
	}
}

func TestP77OtherBytesInTexts(t *testing.T) {
	for _, text := range []string{"all", "deleted", "text bob", "at 7,3:*", "uid 12", "not all", "or and seen text bob uid 8", "and or not seen at 2:1 not uid *,9", "not not not not not not not not all"} {
		for i := range text {
			expectKey(t, text[:i]+text[i+1:])
			expectKey(t, text[:i])
			expectKey(t, text[i+1:])
		}
		for b := range 256 {
			other := string([]byte{byte(b)})
			for _, s := range withPut(text, other) {
				expectKey(t, s)
			}
			for i := range text {
				expectKey(t, text[:i]+other+text[i+1:])
			}
		}
	}
}

func TestP77SetsInTexts(t *testing.T) {
	for _, set := range append(goodSetTexts(), badSetTexts()...) {
		for _, text := range []string{"at " + set, "uid " + set, "not at " + set, "and uid " + set + " all", "or all at " + set} {
			if _, ok := expectKey(t, text); ok != isSetWord(set) {
				t.Errorf("KeyParse(%.80q) is %v", text, ok)
			}
		}
	}
}

func TestP77NamesInTexts(t *testing.T) {
	for _, name := range append(names(), "all", "text", "or") {
		if k, ok := expectKey(t, "and text "+name+" not text "+name); !ok || k.Keys[0].Text != name || k.Keys[1].Keys[0].Text != name {
			t.Errorf("KeyParse with the text %q is %v, %v", name, k, ok)
		}
	}
	for _, name := range notNames() {
		for _, text := range []string{"text " + name, "not text " + name, "and all text " + name, "and text " + name + " all"} {
			expectNoKey(t, text)
		}
	}
}

func TestP77VeryLongTexts(t *testing.T) {
	const many = 200000
	for _, text := range []string{
		strings.Repeat("not ", many) + "all", strings.Repeat("and ", many), strings.Repeat("or all ", many) + "all", strings.Repeat("all ", many), strings.Repeat(" ", many), strings.Repeat("x", many),
		"text " + strings.Repeat("x", many), "at " + strings.Repeat("1,", many) + "1", "uid " + strings.Repeat("9", many), "not" + strings.Repeat(" ", many) + "all", "all" + strings.Repeat(" ", many),
	} {
		expectNoKey(t, text)
	}
	// A reader without a limit would need more stack than there is.
	for _, word := range []string{"not ", "and ", "or "} {
		if k, ok := impl.KeyParse(strings.Repeat(word, 8000000) + "all"); ok || !sameKey(k, impl.Key{}) {
			t.Errorf("KeyParse of %q again and again is %v, %v", word, k, ok)
		}
	}
}

func TestP78BlanksAndFurtherKeys(t *testing.T) {
	for _, text := range goodKeyTexts() {
		for _, bad := range []string{" " + text, text + " ", " " + text + " ", "  " + text, text + "  ", "\n" + text, text + "\n", text + "\x00", "\t" + text} {
			expectNoKey(t, bad)
		}
		for _, further := range []string{"all", "seen", "text bob", "at 1", "uid *", "not all", "and all all", "or seen draft", text} {
			expectNoKey(t, text+" "+further)
		}
		for i := range text {
			if text[i] == ' ' {
				expectNoKey(t, text[:i]+" "+text[i:])
				expectNoKey(t, text[:i])
				// Both of these may be valid: "text a not all" without a blank is "text anot all".
				expectKey(t, text[:i]+text[i+1:])
				expectKey(t, text[i+1:])
			}
		}
	}
}

func TestP79KeysInNot(t *testing.T) {
	for _, k := range keys() {
		if impl.KeyValid(notKey(k)) != (len(nodesOf(k)) < impl.MaxKeys) {
			t.Errorf("KeyValid of a KeyNot of %v is wrong", k)
		}
	}
	for _, k := range notKeys() {
		if impl.KeyValid(notKey(k)) {
			t.Errorf("KeyValid of a KeyNot of %v holds", k)
		}
	}
}

func TestP79NumberOfNodes(t *testing.T) {
	b := boxWith(50, 3, 7, 20)
	for count := 1; count <= 11; count++ {
		state := count
		for _, shape := range shapes(count) {
			for _, k := range []impl.Key{shape, dressed(shape, &state)} {
				if count > 9 {
					expectInvalid(t, b, k)
					expectNoKey(t, keyText(k))
				} else if !impl.KeyValid(k) || impl.KeyFormat(k) != keyText(k) {
					t.Errorf("KeyValid(%v) is %v, and KeyFormat %q", k, impl.KeyValid(k), impl.KeyFormat(k))
				}
			}
		}
	}
}

func TestP79KeysWithoutAnEnd(t *testing.T) {
	b := boxWith(50, 3, 7, 20)
	for i, k := range endlessKeys() {
		for j, x := range []impl.Key{k, notKey(k), andKey(allKey(), k), orKey(k, allKey())} {
			if impl.KeyValid(x) || impl.KeyFormat(x) != "" || len(impl.SearchBox(b, x)) != 0 {
				t.Errorf("key %d without an end is valid in place %d", i, j)
			}
		}
	}
}

func TestP80OtherFields(t *testing.T) {
	for _, k := range keys() {
		if !impl.KeyValid(k) {
			t.Errorf("KeyValid(%v) does not hold", k)
		}
		flag, text, set, key := keyClone(k), keyClone(k), keyClone(k), keyClone(k)
		flag.Flag, text.Text, set.Set, key.Keys = impl.FlagSeen, "bob", setOf("1"), append(key.Keys, allKey())
		if impl.KeyValid(flag) != (k.Kind == impl.KeyHas) || impl.KeyValid(text) != (k.Kind == impl.KeyText) {
			t.Errorf("KeyValid of %v with a flag or a text is wrong", k)
		}
		if impl.KeyValid(set) != (k.Kind == impl.KeyPlace || k.Kind == impl.KeyUid) || impl.KeyValid(key) {
			t.Errorf("KeyValid of %v with a set or a further key is wrong", k)
		}
		for _, x := range slices.Concat(withOtherFields(k), withOtherKeys(k)) {
			if impl.KeyValid(x) {
				t.Errorf("KeyValid(%v) holds", x)
			}
		}
	}
}

// TestP80AllFields has all choices of fields with valid values, for each kind and beside it.
func TestP80AllFields(t *testing.T) {
	b := boxWith(50, 3, 7, 20)
	for kind := -2; kind <= 10; kind++ {
		for _, flag := range []int{0, 1, 2, 3, 4, 8, 16, 31} {
			for _, text := range []string{"", "bob", "Bob"} {
				for _, set := range [][]impl.Span{nil, {{}}, {{Low: -1}}} {
					for count := range 4 {
						k := impl.Key{Kind: kind, Flag: flag, Text: text, Set: set, Keys: slices.Repeat([]impl.Key{allKey()}, count)}
						if !isKey(k) {
							expectInvalid(t, b, k)
						} else if !impl.KeyValid(k) || impl.KeyFormat(k) != keyText(k) {
							t.Errorf("KeyValid(%v) is %v, and KeyFormat %q", k, impl.KeyValid(k), impl.KeyFormat(k))
						}
					}
				}
			}
		}
	}
}

func TestP81KeysOfKeys(t *testing.T) {
	for _, k := range nestedKeys() {
		for _, key := range nodesOf(k) {
			if !impl.KeyValid(key) {
				t.Errorf("%v is valid, but not its key %v", k, key)
			}
		}
	}
}

func TestP81InvalidKeysInKeys(t *testing.T) {
	b := boxWith(50, 3, 7, 20)
	for _, bad := range slices.Concat(badLeaves(), withOtherKinds(allKey()), withOtherKinds(notKey(allKey()))) {
		for _, k := range []impl.Key{notKey(bad), andKey(bad, allKey()), andKey(allKey(), bad), orKey(bad, allKey()), orKey(allKey(), bad)} {
			expectInvalid(t, b, k)
			for _, x := range []impl.Key{notKey(k), andKey(k, allKey()), orKey(allKey(), k), notKey(notKey(orKey(k, hasKey(1))))} {
				expectInvalid(t, b, x)
			}
		}
	}
}

func TestP82PlacesOfKeys(t *testing.T) {
	all := keys()
	for _, b := range searchBoxes() {
		for _, k := range all {
			if places := expectFound(t, b, k, found(b, k)); !arePlaces(b, places) {
				t.Errorf("SearchBox(%v, %q) is %v", b, keyText(k), places)
			}
		}
	}
}

func TestP82AllSmallKeys(t *testing.T) {
	for _, b := range append([]impl.Box{{Next: 9}, boxWith(9, 1), boxWith(50, 3, 8, 20)}, textBoxes()[9]) {
		for count := 1; count <= 6; count++ {
			for _, k := range smallKeys(count) {
				expectFound(t, b, k, found(b, k))
			}
		}
	}
}

func TestP82NamedSearches(t *testing.T) {
	b := impl.Box{Next: 40, Mail: []impl.Mail{{Uid: 3, Flags: 1, Text: "to bob"}, {Uid: 8, Text: "hello"}, {Uid: 9, Flags: 17, Text: "bob"}, {Uid: 30, Flags: 16, Text: "bobby"}}}
	for text, want := range map[string][]int{
		"all": {1, 2, 3, 4}, "not all": nil, "not not all": {1, 2, 3, 4}, "seen": {1, 3}, "not seen": {2, 4}, "draft": {3, 4}, "deleted": nil, "not deleted": {1, 2, 3, 4},
		"text bob": {1, 3, 4}, "text bobby": {4}, "text to": {1}, "text hello": {2}, "text amy": nil, "text o": {1, 2, 3, 4}, "not text bob": {2},
		"at 1": {1}, "at *": {4}, "at 4": {4}, "at 5": nil, "at 5:*": {4}, "at *:5": {4}, "at 99": nil, "at 1,3": {1, 3}, "at 3,1": {1, 3}, "at 3:2": {2, 3}, "at 2:99": {2, 3, 4}, "at 99:2": {2, 3, 4}, "at 1:*": {1, 2, 3, 4}, "not at *": {1, 2, 3},
		"uid 3": {1}, "uid 1": nil, "uid *": {4}, "uid 30": {4}, "uid 31": nil, "uid 31:*": {4}, "uid *:31": {4}, "uid 39": nil, "uid 40": nil, "uid 8:9": {2, 3}, "uid 9:8": {2, 3}, "uid 4:7": nil, "uid 4:8": {2}, "uid 8,30": {2, 4}, "uid 10:*": {4}, "uid 9:*": {3, 4}, "uid *:1": {1, 2, 3, 4}, "uid 4": nil, "not uid *": {1, 2, 3},
		"and seen draft": {3}, "or seen draft": {1, 3, 4}, "not and seen draft": {1, 2, 4}, "not or seen draft": {2}, "and not seen draft": {4}, "or not seen draft": {2, 3, 4}, "and not seen not draft": {2}, "or not seen not draft": {1, 2, 4},
		"or and seen draft at 2": {2, 3}, "and or seen draft at 2:3": {3}, "or at 2 and seen draft": {2, 3}, "and at 2:3 or seen draft": {3}, "or and seen text bob uid 8": {1, 2, 3}, "and seen or text hello uid 9": {3}, "not or and seen text bob uid 8": {4},
		"and and and and all all all all at 1": {1}, "or or or or deleted deleted deleted deleted at 1": {1}, "not not not not not not not not at 2": {2}, "not not not not not not not at 2": {1, 3, 4},
	} {
		k, ok := expectKey(t, text)
		if !ok {
			t.Errorf("KeyParse(%q) fails", text)
			continue
		}
		expectFound(t, b, k, want)
	}
}

func TestP82InvalidMailboxes(t *testing.T) {
	list := append(fewLeaves(), notKey(allKey()), notKey(hasKey(8)), andKey(allKey(), allKey()), orKey(hasKey(1), notKey(hasKey(1))), hasKey(3))
	for _, b := range notBoxes() {
		for _, k := range list {
			if places := impl.SearchBox(b, k); len(places) != 0 {
				t.Errorf("SearchBox(%v, %v) is %v", b, k, places)
			}
		}
	}
}

func TestP82MailboxesWithoutMessages(t *testing.T) {
	list := someKeys(200)
	for next := -1; next <= 101; next++ {
		for _, k := range list {
			if places := impl.SearchBox(impl.Box{Next: next}, k); len(places) != 0 {
				t.Errorf("SearchBox without messages of %q is %v", keyText(k), places)
			}
		}
	}
}

func TestP83PlacesOfNot(t *testing.T) {
	all := keys()
	for _, b := range fewBoxes() {
		for _, k := range all {
			if len(nodesOf(k)) == impl.MaxKeys {
				continue
			}
			places := impl.SearchBox(b, k)
			expectFound(t, b, notKey(k), placesWith(b, func(place int, _ impl.Mail) bool { return !slices.Contains(places, place) }))
		}
	}
}

// eachWithSeen calls check for all keys that are valid together with KeyHas, FlagSeen and a node above both, on either side.
func eachWithSeen(both func(impl.Key, impl.Key) impl.Key, check func(b impl.Box, k impl.Key, places []int, seen []int)) {
	all := keys()
	for _, b := range fewBoxes() {
		seen := impl.SearchBox(b, hasKey(impl.FlagSeen))
		for _, k := range all {
			if len(nodesOf(k))+2 <= impl.MaxKeys {
				places := impl.SearchBox(b, k)
				check(b, both(k, hasKey(impl.FlagSeen)), places, seen)
				check(b, both(hasKey(impl.FlagSeen), k), places, seen)
			}
		}
	}
}

func TestP84PlacesOfAnd(t *testing.T) {
	eachWithSeen(andKey, func(b impl.Box, k impl.Key, places []int, seen []int) {
		expectFound(t, b, k, placesWith(b, func(place int, _ impl.Mail) bool {
			return slices.Contains(places, place) && slices.Contains(seen, place)
		}))
	})
}

func TestP85PlacesOfOr(t *testing.T) {
	eachWithSeen(orKey, func(b impl.Box, k impl.Key, places []int, seen []int) {
		expectFound(t, b, k, placesWith(b, func(place int, _ impl.Mail) bool {
			return slices.Contains(places, place) || slices.Contains(seen, place)
		}))
	})
}

func TestP86KeysExchanged(t *testing.T) {
	exchanged := func(k impl.Key) []impl.Key {
		slices.Reverse(k.Keys)
		return []impl.Key{k}
	}
	all := nestedKeys()
	for _, b := range fewBoxes() {
		for _, k := range all {
			places := impl.SearchBox(b, k)
			for _, other := range replaced(k, exchanged) {
				expectFound(t, b, other, places)
			}
		}
	}
}

func TestP87NotOfAnd(t *testing.T) {
	all := keys()
	for _, b := range fewBoxes() {
		for i, k := range all {
			for _, other := range []impl.Key{allKey(), fewLeaves()[i%20]} {
				first, second := notKey(andKey(k, other)), orKey(notKey(k), notKey(other))
				if impl.KeyValid(first) && impl.KeyValid(second) {
					expectFound(t, b, first, impl.SearchBox(b, second))
				}
				first, second = notKey(orKey(k, other)), andKey(notKey(k), notKey(other))
				if impl.KeyValid(first) && impl.KeyValid(second) {
					expectFound(t, b, first, impl.SearchBox(b, second))
				}
			}
		}
	}
}

func TestP88MessagesWithFlags(t *testing.T) {
	list := searchBoxes()
	for flags := range 32 {
		list = append(list, impl.Box{Next: 9, Mail: []impl.Mail{{Uid: 1, Flags: flags}, {Uid: 2, Flags: 31 - flags}, {Uid: 8, Flags: flags}}})
	}
	for _, b := range list {
		for _, f := range flagList {
			expectFound(t, b, hasKey(f.flag), placesWith(b, func(_ int, m impl.Mail) bool { return impl.FlagsHave(m.Flags, f.flag) }))
			expectFound(t, b, hasKey(f.flag), placesWith(b, func(_ int, m impl.Mail) bool { return slices.Contains(namesOf(m.Flags), f.name) }))
		}
	}
}

func TestP89MessagesInPlaces(t *testing.T) {
	for _, b := range searchBoxes() {
		for _, set := range sets() {
			expectFound(t, b, impl.Key{Kind: impl.KeyPlace, Set: set}, impl.SetNumbers(set, len(b.Mail)))
		}
		expectFound(t, b, placeKey("*"), numbersOf(setOf("*"), len(b.Mail)))
		for place := 1; place <= 99; place++ {
			n := strconv.Itoa(place)
			for _, text := range []string{n, n + ":*", "*:" + n, n + ":1", "99:" + n} {
				expectFound(t, b, placeKey(text), numbersOf(setOf(text), len(b.Mail)))
			}
		}
	}
}

func TestP90MessagesWithUids(t *testing.T) {
	for _, b := range searchBoxes() {
		last := 0
		if len(b.Mail) > 0 {
			last = b.Mail[len(b.Mail)-1].Uid
			expectFound(t, b, uidKey("*"), []int{len(b.Mail)})
		}
		for _, set := range sets() {
			numbers := impl.SetNumbers(set, last)
			expectFound(t, b, impl.Key{Kind: impl.KeyUid, Set: set}, impl.BoxUids(b, numbers))
		}
		for uid := 1; uid <= 99; uid++ {
			n := strconv.Itoa(uid)
			for _, text := range []string{n, n + ":*", "*:" + n, n + ":1", "99:" + n} {
				expectFound(t, b, uidKey(text), placesOf(b, numbersOf(setOf(text), last)))
			}
		}
	}
}

func TestP91MessagesWithTexts(t *testing.T) {
	list := []string{"bob", "b", "o", "bo", "ob", "to", "x", "1", "99", "all", "hello", "hellohel", "xxxxxxxx", "xxxxxbob", "bobxxxxx", "obbobo", "amy", "0", "zzzzzzzz"}
	for _, b := range searchBoxes() {
		for _, text := range append(list, names()...) {
			expectFound(t, b, textKey(text), placesWith(b, func(_ int, m impl.Mail) bool { return strings.Contains(m.Text, text) }))
		}
	}
}

// TestP91PartsOfTexts searches for each part of each text, and for each part with its last letter changed.
func TestP91PartsOfTexts(t *testing.T) {
	for _, text := range searchTexts() {
		b := impl.Box{Next: 2, Mail: []impl.Mail{{Uid: 1, Text: text}}}
		for start := range text {
			for end := start + 1; end <= len(text); end++ {
				part := text[start:end]
				other := part[:len(part)-1] + "q"
				if isName(part) {
					expectFound(t, b, textKey(part), []int{1})
					expectFound(t, b, textKey(other), nil)
				} else {
					expectInvalid(t, b, textKey(part))
				}
			}
		}
	}
}

func TestP91NamedTexts(t *testing.T) {
	for _, c := range []struct {
		text, part string
		has        bool
	}{
		{"bob", "bob", true}, {"bob", "bobb", false}, {"bob", "b", true}, {"", "b", false}, {"bo", "bob", false}, {"to bob", "bob", true}, {"bob to", "bob", true}, {"a bob b", "bob", true}, {"bo b", "bob", false}, {"Bob", "bob", false}, {"BOB", "bob", false}, {"obo", "bob", false},
		{"bobob", "bob", true}, {"bbob", "bob", true}, {"bo bob", "bob", true}, {"aaab", "aab", true}, {"\x00bob", "bob", true}, {"bob\xff", "bob", true}, {"12345678", "12345678", true}, {"123456789", "23456789", true}, {"1234567", "12345678", false}, {strings.Repeat("x", 17) + "bob", "bob", true}, {strings.Repeat("x", 18) + "bo", "bob", false},
	} {
		b := impl.Box{Next: 2, Mail: []impl.Mail{{Uid: 1, Text: c.text}}}
		var want []int
		if c.has {
			want = []int{1}
		}
		expectFound(t, b, textKey(c.part), want)
	}
}

// roomyKey returns a copy of a key in which all nested lists have room behind them, with others in it.
func roomyKey(k impl.Key) impl.Key {
	k.Set = roomy(k.Set, impl.Span{Low: 77, High: 7})
	k.Keys = roomy(k.Keys, textKey("other"))
	for i, key := range k.Keys {
		k.Keys[i] = roomyKey(key)
	}
	return k
}

// wholeKey returns a copy of a key with all that lies within the capacity of its nested lists.
func wholeKey(k impl.Key) impl.Key {
	k.Set = slices.Clone(whole(k.Set))
	k.Keys = slices.Clone(whole(k.Keys))
	for i, key := range k.Keys {
		k.Keys[i] = wholeKey(key)
	}
	return k
}

// overwriteKey changes all that lies within the capacity of the nested lists of a key.
func overwriteKey(k impl.Key) {
	for i := range whole(k.Set) {
		whole(k.Set)[i] = impl.Span{Low: -1, High: -1}
	}
	for i, key := range whole(k.Keys) {
		overwriteKey(key)
		whole(k.Keys)[i] = impl.Key{Kind: -1, Flag: -1, Text: "overwritten"}
	}
}

// searchResults are what the functions of keys return.
type searchResults struct {
	text   string
	key    impl.Key
	places []int
	ok     bool
}

func searchAll(b impl.Box, k impl.Key) searchResults {
	text := impl.KeyFormat(k)
	key, _ := impl.KeyParse(text)
	return searchResults{text: text, key: key, places: impl.SearchBox(b, k), ok: impl.KeyValid(k)}
}

func (r searchResults) clone() searchResults {
	r.key, r.places = keyClone(r.key), slices.Clone(r.places)
	return r
}

func (r searchResults) same(other searchResults) bool {
	return r.text == other.text && sameKey(r.key, other.key) && slices.Equal(r.places, other.places) && r.ok == other.ok
}

func (r searchResults) overwrite() {
	overwriteKey(r.key)
	boxResults{list: r.places}.overwrite()
}

// memoryKeys are valid keys and invalid ones.
func memoryKeys() []impl.Key {
	list := append(fewLeaves(), someKeys(150)...)
	for _, k := range []impl.Key{andKey(placeKey("1,2"), notKey(uidKey("3:*,1"))), notKey(allKey())} {
		list = append(list, replaced(k, func(impl.Key) []impl.Key { return fewBadLeaves() })...)
	}
	return append(list, longKeys()[0], longKeys()[700])
}

func TestKeysKeepTheirMemory(t *testing.T) {
	full := boxWith(100, 1, 2, 3, 4, 5, 6, 7, 8, 9, 10)
	for _, plain := range memoryKeys() {
		for _, box := range []impl.Box{{Next: 1}, boxWith(50, 3, 7, 20), full, boxWith(3, 5)} {
			a := boxArguments{b: box}.roomy()
			k := roomyKey(plain)
			before, kept := a.keep(), wholeKey(k)
			first, second := searchAll(a.b, k), searchAll(a.b, k)
			want := second.clone()
			if !first.same(second) || !a.isAs(before) || !sameKey(wholeKey(k), kept) {
				t.Errorf("the arguments %v and %v were changed", box, plain)
			}
			first.overwrite()
			if !second.same(want) || !a.isAs(before) || !sameKey(wholeKey(k), kept) {
				t.Errorf("a result shares memory with the arguments %v and %v or with another result", box, plain)
			}
			a.overwrite()
			overwriteKey(k)
			if !second.same(want) {
				t.Errorf("a result changes with the arguments %v and %v", box, plain)
			}
		}
	}
}

// numbered writes another number into each node and each span of a key, and into all that lies within the capacity
// of its lists, and returns how to ask whether they are all there yet.
func numbered(k impl.Key) func() bool {
	var flags, lows []*int
	var visit func(k impl.Key)
	visit = func(k impl.Key) {
		for i := range whole(k.Set) {
			lows = append(lows, &whole(k.Set)[i].Low)
		}
		for i := range whole(k.Keys) {
			flags = append(flags, &whole(k.Keys)[i].Flag)
			visit(whole(k.Keys)[i])
		}
	}
	visit(k)
	all := append(flags, lows...)
	for i, p := range all {
		*p = 1000 + i
	}
	return func() bool {
		for i, p := range all {
			if *p != 1000+i {
				return false
			}
		}
		return true
	}
}

func TestListsOfAKeyShareNoMemory(t *testing.T) {
	for _, text := range append(goodKeyTexts(), "and at 1,2 at 1,2", "or not uid * and not uid * at *", "and and at 1 at 1 or at 1 uid 1") {
		k, ok := impl.KeyParse(text)
		if !ok || !numbered(k)() {
			t.Errorf("lists of the key of %q share memory", text)
		}
	}
}

// withEmptyLists returns a copy of a key in which an empty list takes the place of each list without elements.
func withEmptyLists(k impl.Key, set []impl.Span, keys []impl.Key) impl.Key {
	k = keyClone(k)
	if len(k.Set) == 0 {
		k.Set = set
	}
	if len(k.Keys) == 0 {
		k.Keys = keys
	}
	for i, key := range k.Keys {
		k.Keys[i] = withEmptyLists(key, set, keys)
	}
	return k
}

func TestKeysOfNilAndEmptySlices(t *testing.T) {
	for _, k := range slices.Concat(memoryKeys(), keys()) {
		b := boxWith(50, 3, 7, 20)
		want := searchAll(b, withEmptyLists(k, nil, nil))
		if want.ok != isKey(k) {
			t.Errorf("KeyValid(%v) is %v", k, want.ok)
		}
		for _, x := range []impl.Key{
			withEmptyLists(k, []impl.Span{}, []impl.Key{}), withEmptyLists(k, make([]impl.Span, 0, 5), make([]impl.Key, 0, 5)), withEmptyLists(k, setOf("1,2")[:0], []impl.Key{allKey(), allKey()}[:0]),
			withEmptyLists(k, []impl.Span{}, nil), withEmptyLists(k, nil, []impl.Key{}),
		} {
			if !searchAll(b, x).same(want) {
				t.Errorf("the results for %v are not the same with empty lists", k)
			}
		}
		if empty, none := impl.SearchBox(impl.Box{Next: 3, Mail: []impl.Mail{}}, k), impl.SearchBox(impl.Box{Next: 3}, k); len(empty) != 0 || len(none) != 0 {
			t.Errorf("SearchBox of %v without messages is %v and %v", k, empty, none)
		}
	}
}
