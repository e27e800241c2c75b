package tests

import (
	"math"
	"math/bits"
	"slices"
	"strconv"
	"strings"
	"testing"

	"loop.example/mailhost/impl"
)

// A second definition of rights, against which the program is held: each right with its letter, in the order of the
// document, and grants that are looked for in lists.
var rightList = []struct {
	right  int
	letter string
}{{1, "l"}, {2, "r"}, {4, "w"}, {8, "i"}, {16, "e"}, {32, "a"}}

func isRights(n int) bool {
	return 0 <= n && n <= 63
}

// lettersOf returns the letters of rights, in the order of the document.
func lettersOf(rights int) string {
	letters := ""
	for _, r := range rightList {
		if hasFlag(rights, r.right) {
			letters += r.letter
		}
	}
	return letters
}

// rightsOf returns the rights of a text, in which each letter is there once or not at all, and nothing else.
func rightsOf(text string) (int, bool) {
	sum, count := 0, 0
	for _, r := range rightList {
		if strings.Count(text, r.letter) == 1 {
			sum += r.right
			count++
		}
	}
	if count != len(text) {
		return 0, false
	}
	return sum, true
}

// isAcl compares each grant with all those behind it.
func isAcl(list []impl.Grant) bool {
	if len(list) > 4 {
		return false
	}
	for i, g := range list {
		if !isName(g.User) || !isRights(g.Rights) || g.Rights == 0 {
			return false
		}
		for _, other := range list[i+1:] {
			if strings.Compare(g.User, other.User) != -1 {
				return false
			}
		}
	}
	return true
}

// grantedTo returns the rights that a list gives to a user by name.
func grantedTo(list []impl.Grant, user string) int {
	rights := 0
	for _, g := range list {
		if g.User == user {
			rights = g.Rights
		}
	}
	return rights
}

// withGrant is a second definition of AclSet.
func withGrant(list []impl.Grant, user string, rights int) ([]impl.Grant, bool) {
	if !isAcl(list) || !isName(user) || !isRights(rights) {
		return nil, false
	}
	next := slices.DeleteFunc(slices.Clone(list), func(g impl.Grant) bool { return g.User == user })
	if rights > 0 {
		next = append(next, impl.Grant{User: user, Rights: rights})
	}
	if len(next) > 4 {
		return list, false
	}
	slices.SortFunc(next, func(a impl.Grant, b impl.Grant) int { return strings.Compare(a.User, b.User) })
	return next, true
}

// rightsIn is a second definition of AclRights, one right after the other.
func rightsIn(list []impl.Grant, owner string, user string) int {
	if !isAcl(list) || !isName(owner) || !isName(user) {
		return -1
	}
	sum := 0
	for _, r := range rightList {
		if owner == user || hasFlag(grantedTo(list, user), r.right) || hasFlag(grantedTo(list, "anyone"), r.right) {
			sum += r.right
		}
	}
	return sum
}

// acl returns the grants of a text such as "amy=3 bob=12", which need not be valid.
func acl(text string) []impl.Grant {
	var list []impl.Grant
	for _, part := range strings.Fields(text) {
		user, rights, _ := strings.Cut(part, "=")
		n, err := strconv.Atoi(rights)
		if err != nil {
			panic(text)
		}
		list = append(list, impl.Grant{User: user, Rights: n})
	}
	return list
}

// aclNames are in ascending order; some begin with another one, and they have one byte to MaxName bytes.
func aclNames() []string {
	return []string{"0", "9zzzzzzz", "a", "am", "amy", "amyz", "anyon", "anyone", "anyone0", "bob", "bob7", "z", "zzzzzzzz"}
}

// aclUsers are all these, and names ahead of, between and behind them.
func aclUsers() []string {
	return append(aclNames(), "00", "aa", "an", "anyonea", "amyzzzzz", "b", "bob6", "zz", "01234567")
}

// aclsOf returns all lists of at most most of some users, in order; the rights of each grant are others.
func aclsOf(users []string, most int) [][]impl.Grant {
	lists := [][]impl.Grant{nil}
	for i, user := range users {
		for _, list := range slices.Clone(lists) {
			if len(list) < most {
				rights := 1 + (7*i+11*len(lists))%63
				lists = append(lists, append(slices.Clone(list), impl.Grant{User: user, Rights: rights}))
			}
		}
	}
	return lists
}

// acls are valid: all choices of up to MaxGrants users, and each of the rights.
func acls() [][]impl.Grant {
	lists := aclsOf(aclNames(), impl.MaxGrants)
	for rights := 1; rights <= 63; rights++ {
		text := strconv.Itoa(rights)
		lists = append(lists, acl("amy="+text), acl("anyone="+text), acl("amy=5 anyone="+text), acl("anyone=18 bob="+text), acl("a=1 am=2 amy="+text+" anyone=8"))
	}
	return lists
}

// fewAcls are valid, without grants up to MaxGrants, with Anyone and without.
func fewAcls() [][]impl.Grant {
	return append(aclsOf([]string{"a", "amy", "anyone", "bob", "zzzzzzzz"}, impl.MaxGrants), acl("amy=63"), acl("anyone=63"), acl("amy=63 anyone=63 bob=63 cleo=63"), acl("amy=1 anyone=2"), acl("0=1 1=1 2=1 3=1"))
}

// notRights are numbers that are no rights: both beside the range, those that are rights in their last bits, and the limits of int.
func notRights() []int {
	list := []int{math.MinInt, math.MinInt + 1, math.MinInt + 63, math.MinInt32, math.MaxInt32, math.MaxUint32, math.MaxInt - 63, math.MaxInt - 1, math.MaxInt, 1 << 32, 1<<32 + 1, 1<<32 + 63, 1 << 62}
	for n := 1; n <= 70; n++ {
		list = append(list, -n, 63+n, 256+n, -256+n)
	}
	return append(list, 127, 128, 255, 256, 1000, -127, -128)
}

// withFaults returns copies of valid grants with a fault in one of them.
func withFaults(list []impl.Grant) [][]impl.Grant {
	var lists [][]impl.Grant
	for i, g := range list {
		grants := []impl.Grant{{User: g.User}, {}, {User: strings.ToUpper(g.User + "a"), Rights: g.Rights}}
		for _, n := range notRights() {
			grants = append(grants, impl.Grant{User: g.User, Rights: n})
		}
		for _, user := range notNames() {
			grants = append(grants, impl.Grant{User: user, Rights: g.Rights})
		}
		for _, other := range grants {
			faulty := slices.Clone(list)
			faulty[i] = other
			lists = append(lists, faulty)
		}
	}
	return lists
}

// inOtherOrders returns the grants in all orders but the one in which they are.
func inOtherOrders(list []impl.Grant) [][]impl.Grant {
	var users []string
	for _, g := range list {
		users = append(users, g.User)
	}
	var lists [][]impl.Grant
	for _, order := range orders(users)[1:] {
		var other []impl.Grant
		for _, user := range order {
			other = append(other, impl.Grant{User: user, Rights: grantedTo(list, user)})
		}
		lists = append(lists, other)
	}
	return lists
}

// withTwice returns the grants with one of them twice, next to each other or not, with the same rights or others.
func withTwice(list []impl.Grant) [][]impl.Grant {
	var lists [][]impl.Grant
	for _, g := range list {
		for i := range len(list) + 1 {
			lists = append(lists, slices.Insert(slices.Clone(list), i, g), slices.Insert(slices.Clone(list), i, impl.Grant{User: g.User, Rights: 64 - g.Rights}))
		}
	}
	return lists
}

// longAcls have more than MaxGrants grants, all of them valid and in order.
func longAcls() [][]impl.Grant {
	lists := [][]impl.Grant{acl("amy=1 anyone=2 bob=4 cleo=8 dan=16"), acl("a=1 b=1 c=1 d=1 e=1 f=1"), acl("0=63 1=63 2=63 3=63 4=63")}
	var long []impl.Grant
	for n := range 100000 {
		long = append(long, impl.Grant{User: "u" + strconv.Itoa(1000000 + n)[1:], Rights: 1})
	}
	return append(lists, long, long[:8], long[:255], long[:256], long[:260])
}

func notAcls() [][]impl.Grant {
	lists := longAcls()
	for _, list := range fewAcls() {
		lists = slices.Concat(lists, withFaults(list), withTwice(list), inOtherOrders(list))
	}
	return lists
}

// fewNotAcls have one fault each.
func fewNotAcls() [][]impl.Grant {
	return [][]impl.Grant{
		acl("amy=0"), acl("amy=-1"), acl("amy=64"), acl("Amy=1"), acl("=1"), acl("abcdefghi=1"), acl("a.b=1"), acl("bob=1 amy=1"), acl("amy=1 amy=1"), acl("amy=1 amy=2"), acl("amy=1 bob=2 amy=1"), acl("amy=1 am=1"),
		acl("amy=1 bob=0"), acl("amy=0 bob=1"), acl("amy=1 bob=1 Cleo=1"), acl("anyone=0"), acl("anyone=1 anyone=2"), acl("anyone=1 amy=1"), acl("amy=1 anyone=64"), acl("amy=1 anyone=2 bob=4 cleo=8 dan=16"), acl("a=1 b=1 c=1 d=1 e=0"),
	}
}

// rightsTexts returns all texts of rights that there are, with letters in every order.
func rightsTexts() []string {
	var texts []string
	for rights := range 64 {
		for _, letters := range orders(strings.Split(lettersOf(rights), "")) {
			texts = append(texts, strings.Join(letters, ""))
		}
	}
	return texts
}

// badRightsTexts are invalid: letters twice, capital ones, ones that stand for no right, and other signs.
func badRightsTexts() []string {
	list := []string{
		" ", "\n", "\x00", "\xff", "-", "+", "()", "(lr)", "\"\"", "0", "1", "63", "l1", "all", "none", "anyone",
		"ll", "rr", "ww", "ii", "ee", "aa", "lrl", "lrwl", "lrwiel", "lrwieal", "lrwiealrwiea", "aeiwrla", "alla", "lrr", "rlr",
		"L", "R", "W", "I", "E", "A", "lR", "Lr", "LRWIEA", "lrwieA", "Lrwiea", "Ll", "lL",
		" l", "l ", "l r", "l,r", "l+r", "l\nr", "l\tr", "lr\n", "\x00lr", "lr\x00", "l\x00r", "lr ", " lr", "(l", "l)",
		"s", "p", "c", "d", "k", "x", "t", "m", "lrs", "lrswipcda", "lrwieax", "xlrwiea", "lrxwiea", "q", "lq", "j", "h", "b", "f", "v", "z",
		"ł", "é", "lé", "ｌ", "lｒ", "ﬁ", "l\xff", "\xffl", "l\u0301", "İ", "ı",
	}
	return append(list, strings.Repeat("l", 100000), strings.Repeat("lrwiea", 20000), "lrwiea"+strings.Repeat(" ", 100000), strings.Repeat("x", 100000), strings.Repeat("l", 256), strings.Repeat("l", 257))
}

// expectRights checks RightsParse of any text.
func expectRights(t *testing.T, text string) {
	t.Helper()
	want, valid := rightsOf(text)
	if rights, ok := impl.RightsParse(text); ok != valid || rights != want {
		t.Errorf("RightsParse(%.80q) is %d, %v", text, rights, ok)
	}
}

func expectNoRights(t *testing.T, text string) {
	t.Helper()
	if rights, ok := impl.RightsParse(text); ok || rights != 0 {
		t.Errorf("RightsParse(%.80q) is %d, %v", text, rights, ok)
	}
}

// setGrant returns AclSet of any arguments, and checks it first.
func setGrant(t *testing.T, list []impl.Grant, user string, rights int) ([]impl.Grant, bool) {
	t.Helper()
	want, valid := withGrant(list, user, rights)
	next, ok := impl.AclSet(list, user, rights)
	if ok != valid || !slices.Equal(next, want) {
		t.Errorf("AclSet(%.200v, %.20q, %d) is %v, %v", list, user, rights, next, ok)
	}
	return next, ok
}

// expectIn checks AclRights of any arguments.
func expectIn(t *testing.T, list []impl.Grant, owner string, user string, want int) {
	t.Helper()
	if rights := impl.AclRights(list, owner, user); rights != want {
		t.Errorf("AclRights(%.200v, %.20q, %.20q) is %d, not %d", list, owner, user, rights, want)
	}
}

// eachSet calls a check for each change of valid grants that succeeds.
func eachSet(t *testing.T, check func(list []impl.Grant, user string, rights int, next []impl.Grant)) {
	t.Helper()
	visit := func(list []impl.Grant, user string, rights int) {
		if next, ok := setGrant(t, list, user, rights); ok {
			check(list, user, rights, next)
		}
	}
	for _, list := range acls() {
		for _, user := range aclUsers() {
			for _, rights := range []int{0, 1, 44, impl.RightsAll, grantedTo(list, user)} {
				visit(list, user, rights)
			}
		}
	}
	for _, list := range fewAcls() {
		for rights := range 64 {
			visit(list, "amy", rights)
			visit(list, "cleo", rights)
			visit(list, impl.Anyone, rights)
		}
	}
}

func TestConstantsOfRights(t *testing.T) {
	all := []int{impl.RightSee, impl.RightRead, impl.RightFlag, impl.RightPut, impl.RightRemove, impl.RightGrant, impl.RightsAll, impl.MaxGrants}
	if !slices.Equal(all, []int{1, 2, 4, 8, 16, 32, 63, 4}) || impl.Anyone != "anyone" {
		t.Errorf("the rights and the limit are %v, and Anyone is %q", all, impl.Anyone)
	}
}

func TestP92RightsOfTexts(t *testing.T) {
	for rights := range 64 {
		text := impl.RightsText(rights)
		if again, ok := impl.RightsParse(text); !ok || again != rights {
			t.Errorf("RightsParse(%q) is %d, %v", text, again, ok)
		}
	}
}

func TestP92NamedTexts(t *testing.T) {
	for rights, text := range map[int]string{
		0: "", 1: "l", 2: "r", 4: "w", 8: "i", 16: "e", 32: "a", 3: "lr", 5: "lw", 33: "la", 48: "ea", 20: "we", 42: "ria", 21: "lwe", 7: "lrw", 15: "lrwi", 31: "lrwie", 62: "rwiea", 63: "lrwiea",
	} {
		if got := impl.RightsText(rights); got != text {
			t.Errorf("RightsText(%d) is %q", rights, got)
		}
		if got, ok := impl.RightsParse(text); !ok || got != rights {
			t.Errorf("RightsParse(%q) is %d, %v", text, got, ok)
		}
	}
}

func TestP93LettersOfRights(t *testing.T) {
	for rights := range 64 {
		text := impl.RightsText(rights)
		if len(text) != bits.OnesCount(uint(rights)) || text != lettersOf(rights) {
			t.Errorf("RightsText(%d) is %q", rights, text)
		}
	}
	for _, n := range notRights() {
		if text := impl.RightsText(n); text != "" {
			t.Errorf("RightsText(%d) is %q", n, text)
		}
	}
	for n := -2000; n <= 2000; n++ {
		if text := impl.RightsText(n); (text != "") != (isRights(n) && n != 0) {
			t.Errorf("RightsText(%d) is %q", n, text)
		}
	}
}

func TestP94LettersInEveryOrder(t *testing.T) {
	texts := rightsTexts()
	if len(texts) != 1957 {
		t.Fatalf("there are %d texts", len(texts))
	}
	for _, text := range texts {
		expectRights(t, text)
		rights, ok := impl.RightsParse(text)
		reverse := []byte(text)
		slices.Reverse(reverse)
		if other, back := impl.RightsParse(string(reverse)); !ok || !back || rights != other {
			t.Errorf("RightsParse of %q and in reverse is %d, %v and %d, %v", text, rights, ok, other, back)
		}
		if written := impl.RightsText(rights); len(written) != len(text) {
			t.Errorf("RightsText of the rights of %q is %q", text, written)
		}
	}
}

func TestP94ShortTexts(t *testing.T) {
	for _, text := range shortTexts("lrwieaLx ", 5) {
		expectRights(t, text)
	}
}

func TestP95TextsOfNoRights(t *testing.T) {
	for _, text := range badRightsTexts() {
		expectNoRights(t, text)
	}
}

func TestP95LettersTwice(t *testing.T) {
	expectRights(t, "")
	for _, text := range rightsTexts() {
		for i := range text {
			expectNoRights(t, text+text)
			for _, longer := range withPut(text, text[i:i+1]) {
				expectNoRights(t, longer)
			}
		}
	}
}

func TestP95OtherLetters(t *testing.T) {
	texts := rightsTexts()
	for b := range 256 {
		sign := string([]byte{byte(b)})
		if strings.Contains("lrwiea", sign) {
			continue
		}
		for _, text := range texts {
			for _, longer := range withPut(text, sign) {
				expectNoRights(t, longer)
			}
			for i := range text {
				expectNoRights(t, text[:i]+sign+text[i+1:])
			}
		}
	}
}

func TestP96GrantsWithoutOne(t *testing.T) {
	for _, list := range acls() {
		if !impl.AclValid(list) || !isAcl(list) {
			t.Errorf("AclValid(%v) is %v", list, impl.AclValid(list))
		}
		for i := range list {
			if shorter := slices.Delete(slices.Clone(list), i, i+1); !impl.AclValid(shorter) {
				t.Errorf("the grants %v are invalid", shorter)
			}
		}
	}
}

func TestP96GrantsTwice(t *testing.T) {
	for _, list := range acls() {
		for _, longer := range withTwice(list) {
			if impl.AclValid(longer) || isAcl(longer) {
				t.Errorf("the grants %v are valid", longer)
			}
		}
	}
}

func TestP96Grants(t *testing.T) {
	for _, name := range names() {
		for rights := 1; rights <= 63; rights++ {
			if list := []impl.Grant{{User: name, Rights: rights}}; !impl.AclValid(list) {
				t.Errorf("the grants %v are invalid", list)
			}
		}
	}
	for _, text := range []string{"", "amy=1", "anyone=63", "a=1 aa=1", "0=1 a=1", "9=1 a=2", "am=1 amy=1", "amy=1 amy0=1", "a=1 aa=2 aaa=3 aaaa=4", "amy=1 anyone=1 bob=1 cleo=1", "abcdefgh=1 abcdefgi=1", "10=1 9=1"} {
		if !impl.AclValid(acl(text)) {
			t.Errorf("the grants %q are invalid", text)
		}
	}
}

func TestP96ListsOfNoGrants(t *testing.T) {
	for _, list := range append(notAcls(), fewNotAcls()...) {
		if impl.AclValid(list) || isAcl(list) {
			t.Errorf("the grants %.200v are valid", list)
		}
	}
}

// shortAcls returns all lists of up to MaxGrants+1 grants of a few users, and a few rights.
func shortAcls() [][]impl.Grant {
	grants := []impl.Grant{{User: "a", Rights: 1}, {User: "aa", Rights: 63}, {User: "anyone", Rights: 5}, {User: "b", Rights: 32}, {User: "b", Rights: 0}, {User: "c", Rights: 64}, {User: "", Rights: 1}, {User: "zz", Rights: 9}}
	var lists [][]impl.Grant
	for _, text := range shortTexts("01234567", impl.MaxGrants+1) {
		var list []impl.Grant
		for _, i := range []byte(text) {
			list = append(list, grants[i-'0'])
		}
		lists = append(lists, list)
	}
	return lists
}

func TestP96ShortLists(t *testing.T) {
	for _, list := range shortAcls() {
		if impl.AclValid(list) != isAcl(list) {
			t.Errorf("AclValid(%v) is %v", list, impl.AclValid(list))
		}
	}
}

func TestP97RightsSet(t *testing.T) {
	eachSet(t, func(list []impl.Grant, user string, rights int, next []impl.Grant) {
		has := slices.ContainsFunc(next, func(g impl.Grant) bool { return g.User == user })
		if !impl.AclValid(next) || grantedTo(next, user) != rights || has != (rights != 0) {
			t.Errorf("AclSet(%v, %q, %d) is %v", list, user, rights, next)
		}
	})
}

func TestP98RightsOfOthers(t *testing.T) {
	eachSet(t, func(list []impl.Grant, user string, rights int, next []impl.Grant) {
		for _, other := range aclUsers() {
			if other != user && grantedTo(next, other) != grantedTo(list, other) {
				t.Errorf("AclSet(%v, %q, %d) gives %d to %q", list, user, rights, grantedTo(next, other), other)
			}
		}
	})
}

func TestP99RightsSetAgain(t *testing.T) {
	eachSet(t, func(list []impl.Grant, user string, rights int, next []impl.Grant) {
		if again, ok := impl.AclSet(next, user, rights); !ok || !slices.Equal(again, next) {
			t.Errorf("AclSet(%v, %q, %d) is %v, and then %v, %v", list, user, rights, next, again, ok)
		}
	})
}

func TestP100RightsSetBack(t *testing.T) {
	eachSet(t, func(list []impl.Grant, user string, rights int, next []impl.Grant) {
		if back, ok := impl.AclSet(next, user, grantedTo(list, user)); !ok || !slices.Equal(back, list) {
			t.Errorf("AclSet(%v, %q, %d) is %v, and back %v, %v", list, user, rights, next, back, ok)
		}
	})
}

func TestP101NewUsersForFullLists(t *testing.T) {
	for _, list := range acls() {
		for _, user := range aclUsers() {
			for _, rights := range []int{0, 1, 30, impl.RightsAll} {
				next, ok := setGrant(t, list, user, rights)
				if full := len(list) == impl.MaxGrants && grantedTo(list, user) == 0 && rights > 0; ok == full {
					t.Errorf("AclSet(%v, %q, %d) is %v", list, user, rights, ok)
				} else if full && !slices.Equal(next, list) {
					t.Errorf("AclSet(%v, %q, %d) has the grants %v", list, user, rights, next)
				}
			}
		}
	}
}

func TestP101NamedChanges(t *testing.T) {
	full := "amy=1 anyone=2 bob=4 cleo=8"
	for _, c := range []struct {
		list   string
		user   string
		rights int
		want   string
		ok     bool
	}{
		{"", "amy", 0, "", true}, {"", "amy", 63, "amy=63", true}, {"", "anyone", 1, "anyone=1", true}, {"amy=3", "amy", 12, "amy=12", true}, {"amy=3", "amy", 3, "amy=3", true}, {"amy=3", "amy", 0, "", true},
		{"bob=3", "amy", 1, "amy=1 bob=3", true}, {"amy=3", "bob", 1, "amy=3 bob=1", true}, {"amy=3 cleo=1", "bob", 1, "amy=3 bob=1 cleo=1", true}, {"amy=3", "am", 1, "am=1 amy=3", true}, {"amy=3", "amy0", 1, "amy=3 amy0=1", true},
		{"amy=3 bob=1", "am", 0, "amy=3 bob=1", true}, {"amy=3 bob=1", "amy", 0, "bob=1", true}, {"amy=3 bob=1", "bob", 0, "amy=3", true}, {"amy=3 anyone=4 bob=1", "anyone", 0, "amy=3 bob=1", true}, {"amy=1 bob=2 cleo=3", "zoe", 4, "amy=1 bob=2 cleo=3 zoe=4", true},
		{full, "dan", 1, full, false}, {full, "a", 63, full, false}, {full, "bo", 1, full, false}, {full, "bob7", 1, full, false}, {full, "dan", 0, full, true}, {full, "a", 0, full, true},
		{full, "amy", 63, "amy=63 anyone=2 bob=4 cleo=8", true}, {full, "cleo", 63, "amy=1 anyone=2 bob=4 cleo=63", true}, {full, "anyone", 63, "amy=1 anyone=63 bob=4 cleo=8", true}, {full, "bob", 4, full, true},
		{full, "amy", 0, "anyone=2 bob=4 cleo=8", true}, {full, "cleo", 0, "amy=1 anyone=2 bob=4", true}, {full, "anyone", 0, "amy=1 bob=4 cleo=8", true}, {"amy=1 bob=4 cleo=8 dan=16", "anyone", 1, "amy=1 bob=4 cleo=8 dan=16", false},
	} {
		if next, ok := setGrant(t, acl(c.list), c.user, c.rights); ok != c.ok || !slices.Equal(next, acl(c.want)) {
			t.Errorf("AclSet(%q, %q, %d) is %v, %v", c.list, c.user, c.rights, next, ok)
		}
	}
}

func TestP101InvalidArguments(t *testing.T) {
	expectNone := func(list []impl.Grant, user string, rights int) {
		t.Helper()
		if next, ok := impl.AclSet(list, user, rights); ok || len(next) != 0 {
			t.Errorf("AclSet(%.200v, %.20q, %d) is %.200v, %v", list, user, rights, next, ok)
		}
	}
	for _, list := range append(notAcls(), fewNotAcls()...) {
		for _, user := range []string{"amy", "dan", impl.Anyone, ""} {
			expectNone(list, user, 0)
			expectNone(list, user, 3)
			expectNone(list, user, -1)
		}
	}
	for _, list := range append(fewAcls(), fewNotAcls()...) {
		for _, user := range notNames() {
			expectNone(list, user, 0)
			expectNone(list, user, 5)
			expectNone(list, user, 64)
		}
		for _, rights := range notRights() {
			for _, user := range []string{"amy", "dan", impl.Anyone, "a", "Amy"} {
				expectNone(list, user, rights)
			}
		}
	}
}

func TestP102RightsOfAllUsers(t *testing.T) {
	for _, list := range acls() {
		for _, user := range aclUsers() {
			expectIn(t, list, user, user, impl.RightsAll)
			for _, owner := range []string{"amy", "a", "anyone", "zzzzzzzz", "cleo"} {
				want := grantedTo(list, user) | grantedTo(list, impl.Anyone)
				if owner == user {
					want = impl.RightsAll
				}
				expectIn(t, list, owner, user, want)
				expectIn(t, list, owner, user, rightsIn(list, owner, user))
			}
		}
	}
}

func TestP102AllSumsOfRights(t *testing.T) {
	for rights := 1; rights <= 63; rights++ {
		for others := 1; others <= 63; others++ {
			list := []impl.Grant{{User: "anyone", Rights: others}, {User: "bob", Rights: rights}}
			expectIn(t, list, "amy", "bob", rights|others)
			expectIn(t, list, "amy", "cleo", others)
			expectIn(t, list, "amy", "anyone", others)
			expectIn(t, list, "amy", "amy", 63)
			expectIn(t, list, "bob", "bob", 63)
			expectIn(t, list[1:], "amy", "bob", rights)
			expectIn(t, list[1:], "amy", "cleo", 0)
			expectIn(t, list[1:], "amy", "anyone", 0)
		}
	}
}

func TestP102NamedRights(t *testing.T) {
	for _, c := range []struct {
		list  string
		owner string
		user  string
		want  int
	}{
		{"amy=1 anyone=2 bob=4 cleo=8", "amy", "amy", 63}, {"amy=1 anyone=2 bob=4 cleo=8", "amy", "bob", 6}, {"amy=1 anyone=2 bob=4 cleo=8", "dan", "amy", 3}, {"amy=1 anyone=2 bob=4 cleo=8", "amy", "dan", 2}, {"amy=1 anyone=2 bob=4 cleo=8", "amy", "anyone", 2},
		{"amy=1 anyone=2 bob=4 cleo=8", "anyone", "anyone", 63}, {"amy=1 anyone=2 bob=4 cleo=8", "anyone", "bob", 6}, {"amy=1 anyone=2 bob=4 cleo=8", "anyone", "dan", 2}, {"bob=5", "anyone", "bob", 5}, {"bob=5", "anyone", "dan", 0}, {"bob=5", "anyone", "anyone", 63},
		{"bob=5", "amy", "bob", 5}, {"bob=5", "amy", "bo", 0}, {"bob=5", "amy", "bob7", 0}, {"bob=5", "bob", "amy", 0}, {"anyone=3 bob=3", "amy", "bob", 3}, {"anyone=3 bob=6", "amy", "bob", 7}, {"anyone=63", "amy", "bob", 63}, {"anyone=1", "anyone0", "anyon", 1}, {"anyon=1 anyone0=2", "amy", "anyone", 0},
	} {
		expectIn(t, acl(c.list), c.owner, c.user, c.want)
	}
}

func TestP103RightsOfAnyone(t *testing.T) {
	for _, list := range acls() {
		for _, owner := range aclUsers() {
			if owner == impl.Anyone {
				continue
			}
			anyone := impl.AclRights(list, owner, impl.Anyone)
			for _, user := range aclUsers() {
				if rights := impl.AclRights(list, owner, user); rights|anyone != rights || rights < 0 {
					t.Errorf("AclRights(%v, %q, %q) is %d, and for Anyone %d", list, owner, user, rights, anyone)
				}
			}
		}
	}
}

func TestP104RightsWithoutGrants(t *testing.T) {
	for _, owner := range append(aclUsers(), names()...) {
		for _, user := range append(aclUsers(), names()...) {
			want := 0
			if owner == user {
				want = 63
			}
			expectIn(t, nil, owner, user, want)
			expectIn(t, []impl.Grant{}, owner, user, want)
		}
	}
}

func TestP104RightsOfNoNames(t *testing.T) {
	for _, list := range append(fewAcls(), fewNotAcls()...) {
		for _, no := range notNames() {
			expectIn(t, list, no, no, -1)
			for _, user := range []string{"amy", "bob", impl.Anyone, "", "Amy"} {
				expectIn(t, list, no, user, -1)
				expectIn(t, list, user, no, -1)
			}
		}
	}
}

func TestP104RightsOfNoGrants(t *testing.T) {
	for _, list := range append(notAcls(), fewNotAcls()...) {
		for _, owner := range []string{"amy", "bob", "zzzzzzzz", impl.Anyone} {
			for _, user := range []string{"amy", "bob", "dan", impl.Anyone} {
				expectIn(t, list, owner, user, -1)
			}
		}
	}
}

// aclCalls has a call of each function that takes grants, for each kind of its results.
var aclCalls = map[string]func(list []impl.Grant) []impl.Grant{
	"AclSet": func(list []impl.Grant) []impl.Grant {
		next, _ := impl.AclSet(list, "bob", 9)
		return next
	},
	"AclSet of a user ahead": func(list []impl.Grant) []impl.Grant {
		next, _ := impl.AclSet(list, "0", 9)
		return next
	},
	"AclSet of a user behind": func(list []impl.Grant) []impl.Grant {
		next, _ := impl.AclSet(list, "zzzzzzzz", 9)
		return next
	},
	"AclSet with 0": func(list []impl.Grant) []impl.Grant {
		next, _ := impl.AclSet(list, "amy", 0)
		return next
	},
	"AclSet that changes nothing": func(list []impl.Grant) []impl.Grant {
		next, _ := impl.AclSet(list, "amy", grantedTo(list, "amy"))
		return next
	},
	"AclSet of no rights": func(list []impl.Grant) []impl.Grant {
		next, _ := impl.AclSet(list, "amy", 64)
		return next
	},
	"AclSet of no name": func(list []impl.Grant) []impl.Grant {
		next, _ := impl.AclSet(list, "Amy", 1)
		return next
	},
	"AclRights": func(list []impl.Grant) []impl.Grant {
		return []impl.Grant{{Rights: impl.AclRights(list, "amy", "bob")}, {Rights: impl.AclRights(list, "dan", "amy")}}
	},
	"AclValid": func(list []impl.Grant) []impl.Grant {
		return slices.Repeat([]impl.Grant{{}}, len(strconv.FormatBool(impl.AclValid(list))))
	},
}

func overwriteGrants(list []impl.Grant) {
	for i := range whole(list) {
		whole(list)[i] = impl.Grant{User: "overwritten", Rights: -1}
	}
}

func TestGrantsKeepTheirMemory(t *testing.T) {
	for name, call := range aclCalls {
		for _, plain := range slices.Concat(fewAcls(), fewNotAcls(), longAcls()) {
			list := roomy(plain, impl.Grant{User: "other", Rights: 7})
			before := slices.Clone(whole(list))
			first, second := call(list), call(list)
			want := slices.Clone(second)
			if !slices.Equal(first, second) || !slices.Equal(whole(list), before) {
				t.Errorf("%s changed the grants %.200v", name, plain)
			}
			overwriteGrants(first)
			if !slices.Equal(second, want) || !slices.Equal(whole(list), before) {
				t.Errorf("a result of %s shares memory with the grants %.200v or with another result", name, plain)
			}
			overwriteGrants(list)
			if !slices.Equal(second, want) {
				t.Errorf("a result of %s changes with the grants %.200v", name, plain)
			}
		}
	}
}

func TestGrantsOfNilAndEmptySlices(t *testing.T) {
	full := acl("amy=1 anyone=2 bob=4 cleo=8")
	for name, call := range aclCalls {
		want := call(nil)
		for _, empty := range [][]impl.Grant{{}, make([]impl.Grant, 0, 5), full[:0]} {
			if !slices.Equal(call(empty), want) {
				t.Errorf("%s is not the same without grants", name)
			}
		}
	}
	if !slices.Equal(full, acl("amy=1 anyone=2 bob=4 cleo=8")) {
		t.Errorf("the full list became %v", full)
	}
}
