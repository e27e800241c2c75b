package tests

import (
	"math"
	"slices"
	"strconv"
	"strings"
	"testing"

	"loop.example/mailhost/impl"
)

// isUser is a second definition of a user of a valid list.
func isUser(u impl.User) bool {
	return isName(u.Name) && u.Name != "anyone" && isName(u.Pass) && u.Quota >= 0 && u.Quota <= 200
}

// isUsers compares each user with all those behind.
func isUsers(list []impl.User) bool {
	if len(list) < 1 || len(list) > 4 {
		return false
	}
	for i, u := range list {
		if !isUser(u) {
			return false
		}
		for _, other := range list[i+1:] {
			if strings.Compare(u.Name, other.Name) != -1 {
				return false
			}
		}
	}
	return true
}

// userCalled is a second definition of UsersFind.
func userCalled(list []impl.User, name string) (impl.User, bool) {
	at := slices.IndexFunc(list, func(u impl.User) bool { return u.Name == name })
	if at < 0 || !isUsers(list) {
		return impl.User{}, false
	}
	return list[at], true
}

// hasProof is a second definition of UsersProve.
func hasProof(list []impl.User, name string, pass string) bool {
	return isUsers(list) && slices.ContainsFunc(list, func(u impl.User) bool { return u.Name == name && u.Pass == pass })
}

// proofOf is a second definition of PlainMake, which takes any two texts.
func proofOf(name string, pass string) string {
	return standardText("\x00" + name + "\x00" + pass)
}

// proverOf is a second definition of UsersPlain: it writes the proofs of all users, and does not read the text.
func proverOf(list []impl.User, text string) (string, bool) {
	at := slices.IndexFunc(list, func(u impl.User) bool { return proofOf(u.Name, u.Pass) == text })
	if at < 0 || !isUsers(list) {
		return "", false
	}
	return list[at].Name, true
}

// usersOf returns the users of a text such as "amy:a1:60 bob:b2:20", which need not be valid.
func usersOf(text string) []impl.User {
	var list []impl.User
	for _, part := range strings.Fields(text) {
		fields := strings.Split(part, ":")
		quota, err := strconv.Atoi(fields[2])
		if err != nil {
			panic(text)
		}
		list = append(list, impl.User{Name: fields[0], Pass: fields[1], Quota: quota})
	}
	return list
}

// quotas are all that a user may have.
func quotas() []int {
	var list []int
	for n := range 201 {
		list = append(list, n)
	}
	return list
}

// notQuotas are both beside the range, those that are quotas in their last bits, and the limits of int.
func notQuotas() []int {
	list := []int{math.MinInt, math.MinInt + 1, math.MinInt + 200, math.MinInt32, math.MaxInt32, math.MaxUint32, math.MaxInt - 200, math.MaxInt - 1, math.MaxInt, 1 << 32, 1<<32 + 1, 1<<32 + 200, 1 << 62}
	for n := 1; n <= 60; n++ {
		list = append(list, -n, 200+n, 256+n, 65536+n, -256+n, -65536+n)
	}
	return append(list, -200, -201, 256, 400, 1000, 65536, -128, -65536)
}

// userNames are in ascending order; some begin with another one or with Anyone, and they have one byte to MaxName bytes.
func userNames() []string {
	return []string{"0", "9zzzzzzz", "a", "am", "amy", "amyz", "anyon", "anyone0", "bob", "bob7", "z", "zzzzzzzz"}
}

// wantedNames are all these, and others: ahead of, between and behind them, Anyone, and texts that are no names.
func wantedNames() []string {
	return slices.Concat(userNames(), names(), []string{"00", "aa", "an", "anyone", "anyonea", "amyzzzzz", "b", "bo", "bob6", "zz", "cleo", "inbox", "a1", "b2", "nobody"}, notNames())
}

// passOf returns a password by a short rule: a few are shared by users, and have one byte or MaxName bytes; one is the
// name itself, and one the name of another user.
func passOf(name string, n int) string {
	return []string{"a1", "b2", name, "q", "abcdefgh", "amy", "0", "anyone", "zzzzzzzz", "b"}[n%10]
}

// userChoices returns all lists of one to most users with some of the names, in order; the passwords and the quotas of each are others.
func userChoices(names []string, most int) [][]impl.User {
	lists := [][]impl.User{nil}
	for _, name := range names {
		for _, list := range slices.Clone(lists) {
			if n := len(lists); len(list) < most {
				lists = append(lists, append(slices.Clone(list), impl.User{Name: name, Pass: passOf(name, n), Quota: 67 * n % 201}))
			}
		}
	}
	return lists[1:]
}

// fewUserLists are valid, with one user to MaxUsers, and both limits of the quotas and of the names.
func fewUserLists() [][]impl.User {
	var lists [][]impl.User
	for _, text := range []string{
		"amy:a1:60", "amy:a1:60 bob:b2:20", "a:a:0", "a:a:0 aa:aa:200", "0:z:200", "zzzzzzzz:01234567:1", "am:ya1:5 amy:a1:5", "anyon:a1:1 anyone0:a1:2", "amy:anyone:9 bob:amy:9 cleo:bob:9",
		"a:b:1 b:a:2", "amy:a1:60 bob:a1:60", "0:a:0 1:b:0 2:c:0 3:d:0", "amy:a1:200 bob:b2:200 cleo:c3:200 dan:d4:200", "9zzzzzzz:q:7 a:q:8 bob:q:9 zzzzzzzz:q:10", "abcdefgh:abcdefgh:20 abcdefgi:abcdefgh:20", "10:9:1 9:10:1",
	} {
		lists = append(lists, usersOf(text))
	}
	return lists
}

// userLists are valid: all choices of one to MaxUsers users, and single users with all quotas, names and passwords.
func userLists() [][]impl.User {
	lists := append(userChoices(userNames(), impl.MaxUsers), fewUserLists()...)
	for _, quota := range quotas() {
		lists = append(lists, []impl.User{{Name: "amy", Pass: "a1", Quota: quota}}, []impl.User{{Name: "amy", Pass: "a1", Quota: 60}, {Name: "bob", Pass: "b2", Quota: quota}})
	}
	for _, name := range names() {
		for _, pass := range append(names(), "anyone") {
			lists = append(lists, []impl.User{{Name: name, Pass: pass, Quota: 3}})
		}
	}
	return lists
}

// faultyUsers returns users who differ from a valid one by a single fault. Some of the names come right behind the
// valid one, so that they leave the order of a list as it is.
func faultyUsers(u impl.User) []impl.User {
	faulty := []impl.User{{}}
	for _, n := range notQuotas() {
		faulty = append(faulty, impl.User{Name: u.Name, Pass: u.Pass, Quota: n})
	}
	for _, text := range notNames() {
		faulty = append(faulty, impl.User{Name: text, Pass: u.Pass, Quota: u.Quota}, impl.User{Name: u.Name, Pass: text, Quota: u.Quota})
	}
	for _, name := range []string{"anyone", u.Name + ".", u.Name + "\x00", u.Name + "-a", u.Name + strings.Repeat("0", 9-len(u.Name))} {
		faulty = append(faulty, impl.User{Name: name, Pass: u.Pass, Quota: u.Quota})
	}
	return faulty
}

// withFaultyUsers returns copies of a valid list with a fault in one of the users.
func withFaultyUsers(list []impl.User) [][]impl.User {
	var lists [][]impl.User
	for i, u := range list {
		for _, other := range faultyUsers(u) {
			faulty := slices.Clone(list)
			faulty[i] = other
			lists = append(lists, faulty)
		}
	}
	return lists
}

// withAnyone returns the list with a user called Anyone at the right place, which is the only fault of lists with less than MaxUsers users.
func withAnyone(list []impl.User) []impl.User {
	at := 0
	for at < len(list) && list[at].Name < "anyone" {
		at++
	}
	return slices.Insert(slices.Clone(list), at, impl.User{Name: "anyone", Pass: "a1", Quota: 60})
}

// withUserTwice returns the list with one user twice, next to each other or not, with the same password and quota or others.
func withUserTwice(list []impl.User) [][]impl.User {
	var lists [][]impl.User
	for _, u := range list {
		for i := range len(list) + 1 {
			lists = append(lists, slices.Insert(slices.Clone(list), i, u), slices.Insert(slices.Clone(list), i, impl.User{Name: u.Name, Pass: "other", Quota: 200 - u.Quota}))
		}
	}
	return lists
}

// usersInOtherOrders returns the users in all orders but the one in which they are.
func usersInOtherOrders(list []impl.User) [][]impl.User {
	var names []string
	for _, u := range list {
		names = append(names, u.Name)
	}
	var lists [][]impl.User
	for _, order := range orders(names)[1:] {
		var other []impl.User
		for _, name := range order {
			u, _ := userCalled(list, name)
			other = append(other, u)
		}
		lists = append(lists, other)
	}
	return lists
}

// longUserLists have more than MaxUsers users, all of them valid and in order.
func longUserLists() [][]impl.User {
	lists := [][]impl.User{usersOf("amy:a1:1 bob:b2:2 cleo:c3:3 dan:d4:4 eve:e5:5"), usersOf("0:a:0 1:a:0 2:a:0 3:a:0 4:a:0")}
	var long []impl.User
	for n := range 70000 {
		long = append(long, impl.User{Name: "u" + strconv.Itoa(1000000 + n)[1:], Pass: "a1", Quota: 1})
	}
	return append(lists, long, long[:5], long[:8], long[:255], long[:256], long[:257], long[:260], long[:65537])
}

// fewNotUserLists have one fault each.
func fewNotUserLists() [][]impl.User {
	lists := [][]impl.User{nil, {}}
	for _, text := range []string{
		":a1:60", "amy::60", "amy:a1:-1", "amy:a1:201", "Amy:a1:60", "amy:A1:60", "abcdefghi:a1:60", "amy:abcdefghi:60", "a.b:a1:60", "amy:a.b:60", "anyone:a1:60", "anyone:a1:60 bob:b2:20", "amy:a1:60 anyone:b2:20", "amy:a1:60 anyone:q:0 bob:b2:20",
		"bob:b2:20 amy:a1:60", "amy:a1:60 amy:a1:60", "amy:a1:60 amy:b2:20", "amy:a1:60 bob:b2:20 amy:a1:60", "amy:a1:60 am:b2:20", "aa:a1:60 a:b2:20", "bob:b2:20 cleo:c3:20 amy:a1:60", "amy:a1:60 cleo:c3:20 bob:b2:20", "9:a1:60 10:b2:20",
		"amy:a1:60 bob:b2:-1", "amy:a1:201 bob:b2:20", "amy:a1:60 bob:b2:20 cleo::0", "amy:a1:60 bob:b2:20 cleo:c3:0 dan:d4:201", "amy:a1:60 bob:b2:20 cleo:c3:20 dan:d4:20 eve:e5:20",
	} {
		lists = append(lists, usersOf(text))
	}
	return lists
}

func notUserLists() [][]impl.User {
	lists := slices.Concat(longUserLists(), fewNotUserLists())
	for _, list := range fewUserLists() {
		lists = slices.Concat(lists, withFaultyUsers(list), withUserTwice(list), usersInOtherOrders(list), [][]impl.User{withAnyone(list)})
	}
	return lists
}

// shortUserLists returns all lists of no user to MaxUsers+1 users, of a few who are valid and a few who are not.
func shortUserLists() [][]impl.User {
	users := usersOf("a:a:0 aa:a:200 amy:anyone:60 b:b2:1 b:q:1 c:q:5 anyone:a:5 zz:a:201")
	var lists [][]impl.User
	for _, text := range shortTexts("01234567", impl.MaxUsers+1) {
		var list []impl.User
		for _, i := range []byte(text) {
			list = append(list, users[i-'0'])
		}
		lists = append(lists, list)
	}
	return lists
}

// triedPasses are the passwords that are tried for a user: those of all users, and texts beside them.
func triedPasses(list []impl.User) []string {
	passes := []string{"", "a1", "b2", "A1", "a", "1", " a1", "a1 ", "\x00", "amy", "bob", "anyone", "other"}
	for _, u := range list {
		passes = append(passes, u.Pass, u.Name, u.Pass+"x", u.Pass[1:], u.Pass[:len(u.Pass)-1], u.Name+u.Pass, "\x00"+u.Pass, strings.ToUpper(u.Pass)+"X")
	}
	return passes
}

// userTexts are the texts that are tried as proofs for a valid list: those of all users, and texts beside them.
func userTexts(list []impl.User) []string {
	texts := []string{"", "AGFteQBhMQ==", "AGFteQBhMR==", "AGFteQBhMQ", "AGJvYgBiMg==", "AABhMQ==", "AGFteQA=", "AA==", "AAA=", "AAAA", "\x00amy\x00a1", "amy a1", "amy", "a1", "====", "\xff"}
	for _, u := range list {
		proof := proofOf(u.Name, u.Pass)
		texts = append(texts, proof, " "+proof, proof+" ", proof+"\n", proof+"=", proof+"====", proof+"AAAA", "AAAA"+proof, proof+proof, proof[1:], proof[:len(proof)-1], proof[:len(proof)-4], strings.ToLower(proof), strings.TrimRight(proof, "="))
		texts = append(texts, standardText(u.Name+"\x00"+u.Pass), standardText("\x00"+u.Name+u.Pass), standardText("\x00\x00"+u.Name+"\x00"+u.Pass), standardText("\x00"+u.Name+"\x00\x00"+u.Pass), standardText("\x00"+u.Name+"\x00"+u.Pass+"\x00"), standardText(u.Name+"\x00"+u.Name+"\x00"+u.Pass), standardText("\x00"+u.Name+" "+u.Pass))
		texts = append(texts, proofOf(u.Pass, u.Name), proofOf(u.Name, u.Pass+"x"), proofOf(u.Name+"x", u.Pass), proofOf("", u.Pass), proofOf(u.Name, ""), proofOf(u.Name, "A"), proofOf("anyone", u.Pass), proofOf(u.Name, u.Pass[1:]), "\x00"+u.Name+"\x00"+u.Pass)
		for _, other := range list {
			texts = append(texts, proofOf(u.Name, other.Pass))
		}
	}
	return texts
}

// withOtherSigns returns all texts that differ from a text in one sign, whose bits may not be needed.
func withOtherSigns(text string) []string {
	var list []string
	for i := range text {
		for _, sign := range []byte(base64Alphabet + "=-_ \n\x00\xff") {
			if sign != text[i] {
				list = append(list, text[:i]+string([]byte{sign})+text[i+1:])
			}
		}
	}
	return list
}

// findUser returns UsersFind of any arguments, and checks it first.
func findUser(t *testing.T, list []impl.User, name string) (impl.User, bool) {
	t.Helper()
	want, valid := userCalled(list, name)
	u, ok := impl.UsersFind(list, name)
	if ok != valid || u != want {
		t.Errorf("UsersFind(%.200v, %.20q) is %v, %v", list, name, u, ok)
	}
	return u, ok
}

// provesUser returns UsersProve of any arguments, and checks it first.
func provesUser(t *testing.T, list []impl.User, name string, pass string) bool {
	t.Helper()
	ok := impl.UsersProve(list, name, pass)
	if ok != hasProof(list, name, pass) {
		t.Errorf("UsersProve(%.200v, %.20q, %.20q) is %v", list, name, pass, ok)
	}
	return ok
}

// proverName returns UsersPlain of any arguments, and checks it first.
func proverName(t *testing.T, list []impl.User, text string) (string, bool) {
	t.Helper()
	want, valid := proverOf(list, text)
	name, ok := impl.UsersPlain(list, text)
	if ok != valid || name != want {
		t.Errorf("UsersPlain(%.200v, %.80q) is %q, %v", list, text, name, ok)
	}
	return name, ok
}

// expectNoUsers checks that a list is invalid, and that the other functions fail for it, whatever is asked for.
func expectNoUsers(t *testing.T, list []impl.User) {
	t.Helper()
	if impl.UsersValid(list) || isUsers(list) {
		t.Errorf("the users %.200v are valid", list)
	}
	asked := usersOf("amy:a1:0 bob:b2:0 u000000:a1:0 anyone:a1:0")
	asked = append(asked, impl.User{}, impl.User{Name: "amy"}, impl.User{Pass: "a1"})
	for _, u := range append(asked, list[:min(len(list), 5)]...) {
		found, ok := impl.UsersFind(list, u.Name)
		proved := impl.UsersProve(list, u.Name, u.Pass)
		if ok || proved || found != (impl.User{}) {
			t.Errorf("UsersFind and UsersProve of %v in %.200v are %v, %v and %v", u, list, found, ok, proved)
		}
		if name, ok := impl.UsersPlain(list, proofOf(u.Name, u.Pass)); ok || name != "" {
			t.Errorf("UsersPlain(%.200v, %q) is %q, %v", list, proofOf(u.Name, u.Pass), name, ok)
		}
	}
}

func TestConstantsOfUsers(t *testing.T) {
	if impl.MaxUsers != 4 || impl.MaxQuota != 200 {
		t.Errorf("the limits are %d and %d", impl.MaxUsers, impl.MaxQuota)
	}
}

func TestP105UsersFound(t *testing.T) {
	for _, list := range userLists() {
		for _, name := range wantedNames() {
			if u, ok := findUser(t, list, name); ok && (u.Name != name || !slices.Contains(list, u)) {
				t.Errorf("UsersFind(%v, %q) is %v", list, name, u)
			}
		}
	}
}

func TestP105NamesNotFound(t *testing.T) {
	list := usersOf("amy:a1:60 amyz:b2:20 bob:amy:0 zzzzzzzz:q:200")
	for _, name := range []string{"", "a", "am", "amyzz", "amy\x00", "amy ", " amy", "Amy", "AMY", "amya", "bo", "bob7", "anyone", "a1", "b2", "q", "zzzzzzz", "zzzzzzzzz", "my", "ob", "amy bob", "amy,bob", strings.Repeat("amy", 100000)} {
		if u, ok := impl.UsersFind(list, name); ok || u != (impl.User{}) {
			t.Errorf("UsersFind of %.20q is %v, %v", name, u, ok)
		}
	}
}

func TestP106EachUserIsFound(t *testing.T) {
	for _, list := range userLists() {
		for _, u := range list {
			if found, ok := impl.UsersFind(list, u.Name); !ok || found != u {
				t.Errorf("UsersFind(%v, %q) is %v, %v", list, u.Name, found, ok)
			}
		}
	}
}

func TestP106NamedUsers(t *testing.T) {
	list := usersOf("amy:a1:60 bob:b2:20 cleo:abcdefgh:0 dan:dan:200")
	for name, want := range map[string]impl.User{
		"amy": {Name: "amy", Pass: "a1", Quota: 60}, "bob": {Name: "bob", Pass: "b2", Quota: 20}, "cleo": {Name: "cleo", Pass: "abcdefgh", Quota: 0}, "dan": {Name: "dan", Pass: "dan", Quota: 200},
	} {
		if u, ok := impl.UsersFind(list, name); !ok || u != want {
			t.Errorf("UsersFind of %q is %v, %v", name, u, ok)
		}
	}
}

func TestP107UsersWithoutOne(t *testing.T) {
	for _, list := range userLists() {
		if !impl.UsersValid(list) || !isUsers(list) {
			t.Errorf("UsersValid(%v) is %v", list, impl.UsersValid(list))
		}
		for i := range list {
			if shorter := slices.Delete(slices.Clone(list), i, i+1); impl.UsersValid(shorter) != (len(list) > 1) {
				t.Errorf("UsersValid(%v) is %v", shorter, impl.UsersValid(shorter))
			}
		}
	}
}

func TestP107UsersTwice(t *testing.T) {
	for _, list := range userLists() {
		for _, longer := range withUserTwice(list) {
			if impl.UsersValid(longer) || isUsers(longer) {
				t.Errorf("the users %v are valid", longer)
			}
		}
	}
}

func TestP107UsersOutOfOrder(t *testing.T) {
	for _, list := range userChoices(userNames(), impl.MaxUsers) {
		for _, other := range usersInOtherOrders(list) {
			if impl.UsersValid(other) || isUsers(other) {
				t.Errorf("the users %v are valid", other)
			}
		}
	}
}

func TestP107NumberOfUsers(t *testing.T) {
	var list []impl.User
	for n := range 300 {
		if impl.UsersValid(list) != (1 <= n && n <= impl.MaxUsers) {
			t.Errorf("UsersValid of %d users is %v", n, impl.UsersValid(list))
		}
		list = append(list, impl.User{Name: "u" + strconv.Itoa(1000 + n)[1:], Pass: "a1", Quota: n % 201})
	}
	for _, list := range longUserLists() {
		expectNoUsers(t, list)
	}
}

func TestP107ShortLists(t *testing.T) {
	for _, list := range shortUserLists() {
		if impl.UsersValid(list) != isUsers(list) {
			t.Errorf("UsersValid(%v) is %v", list, impl.UsersValid(list))
		}
	}
}

func TestP108UsersCalledAnyone(t *testing.T) {
	for _, list := range append(userLists(), nil) {
		if longer := withAnyone(list); impl.UsersValid(longer) || isUsers(longer) {
			t.Errorf("the users %v are valid", longer)
		}
		for i := range list {
			faulty := slices.Clone(list)
			faulty[i].Name = impl.Anyone
			if impl.UsersValid(faulty) {
				t.Errorf("the users %v are valid", faulty)
			}
		}
	}
	for _, text := range []string{"anyone0:a1:60", "anyon:a1:60", "anyon:anyone:60 anyone0:anyone:60", "any:a1:60", "one:a1:60"} {
		if !impl.UsersValid(usersOf(text)) {
			t.Errorf("the users %q are invalid", text)
		}
	}
}

func TestP108PasswordsAndQuotas(t *testing.T) {
	for _, list := range userLists() {
		for i := range list {
			for _, pass := range []string{"", "abcdefghi", "A", "a b", "\x00"} {
				faulty := slices.Clone(list)
				faulty[i].Pass = pass
				if impl.UsersValid(faulty) {
					t.Errorf("the users %v are valid", faulty)
				}
			}
			for _, quota := range []int{-1, -60, 201, 256, math.MinInt, math.MaxInt} {
				faulty := slices.Clone(list)
				faulty[i].Quota = quota
				if impl.UsersValid(faulty) {
					t.Errorf("the users %v are valid", faulty)
				}
			}
		}
	}
}

func TestP108AllQuotas(t *testing.T) {
	for quota := -1000; quota <= 1000; quota++ {
		list := []impl.User{{Name: "amy", Pass: "a1", Quota: quota}}
		if impl.UsersValid(list) != (0 <= quota && quota <= 200) {
			t.Errorf("UsersValid(%v) is %v", list, impl.UsersValid(list))
		}
	}
}

func TestP108NamesAndPasswords(t *testing.T) {
	texts := append(names(), notNames()...)
	for n := range 12 {
		texts = append(texts, strings.Repeat("x", n))
	}
	for _, name := range texts {
		for _, pass := range texts {
			list := []impl.User{{Name: name, Pass: pass, Quota: 60}}
			if impl.UsersValid(list) != (isName(name) && isName(pass)) {
				t.Errorf("UsersValid(%.80v) is %v", list, impl.UsersValid(list))
			}
		}
	}
}

func TestP108ListsOfNoUsers(t *testing.T) {
	for _, list := range notUserLists() {
		expectNoUsers(t, list)
	}
}

func TestP109UsersProved(t *testing.T) {
	for _, list := range userLists() {
		passes := triedPasses(list)
		for _, name := range append(userNames(), "", "anyone", "cleo", "Amy", "a1", "abcdefgh", "01234567") {
			u, found := impl.UsersFind(list, name)
			for _, pass := range passes {
				if proved := provesUser(t, list, name, pass); proved != (found && u.Pass == pass) {
					t.Errorf("UsersProve(%v, %q, %q) is %v", list, name, pass, proved)
				}
			}
		}
	}
}

func TestP109NamedProofs(t *testing.T) {
	list := usersOf("amy:a1:60 bob:b2:0 cleo:cleo:20 dan:amy:200")
	for _, c := range []struct {
		name, pass string
		want       bool
	}{
		{"amy", "a1", true}, {"bob", "b2", true}, {"cleo", "cleo", true}, {"dan", "amy", true},
		{"amy", "b2", false}, {"bob", "a1", false}, {"amy", "amy", false}, {"dan", "dan", false}, {"cleo", "a1", false}, {"dan", "a1", false}, {"amy", "", false}, {"", "a1", false}, {"", "", false},
		{"eve", "a1", false}, {"eve", "", false}, {"anyone", "a1", false}, {"anyone", "", false}, {"Amy", "a1", false}, {"amy", "A1", false}, {"am", "a1", false}, {"amyz", "a1", false}, {"amy", "a", false}, {"amy", "a12", false}, {"a1", "amy", false}, {"amy", "a1\x00", false}, {"amy ", "a1", false},
	} {
		if ok := impl.UsersProve(list, c.name, c.pass); ok != c.want {
			t.Errorf("UsersProve of %q and %q is %v", c.name, c.pass, ok)
		}
	}
}

func TestP110PasswordsWithALetter(t *testing.T) {
	for _, list := range userLists() {
		for _, u := range list {
			if !impl.UsersProve(list, u.Name, u.Pass) {
				t.Errorf("UsersProve(%v, %q, %q) does not hold", list, u.Name, u.Pass)
			}
			for letter := 'a'; letter <= 'z'; letter++ {
				for _, pass := range []string{u.Pass + string(letter), string(letter) + u.Pass} {
					if impl.UsersProve(list, u.Name, pass) {
						t.Errorf("UsersProve(%v, %q, %q) holds", list, u.Name, pass)
					}
				}
			}
		}
	}
}

func TestP110PasswordsWithAnyByte(t *testing.T) {
	for _, list := range fewUserLists() {
		for _, u := range list {
			for b := range 256 {
				for _, pass := range withPut(u.Pass, string([]byte{byte(b)})) {
					if provesUser(t, list, u.Name, pass) {
						t.Errorf("UsersProve(%v, %q, %q) holds", list, u.Name, pass)
					}
				}
			}
		}
	}
}

func TestP111ProofsOfNamesAndPasswords(t *testing.T) {
	for _, list := range userLists() {
		passes := triedPasses(list)
		for _, name := range append(userNames(), "", "anyone", "cleo", "Amy") {
			for _, pass := range passes {
				text := impl.PlainMake(name, pass)
				prover, ok := proverName(t, list, text)
				if ok != impl.UsersProve(list, name, pass) || ok && prover != name || !ok && prover != "" {
					t.Errorf("UsersPlain(%v, %q) is %q, %v", list, text, prover, ok)
				}
			}
		}
	}
}

func TestP111NamedTexts(t *testing.T) {
	list := usersOf("amy:a1:60 bob:b2:20")
	for text, want := range map[string]string{"AGFteQBhMQ==": "amy", "AGJvYgBiMg==": "bob", "AGFteQBiMg==": "", "AGJvYgBhMQ==": "", "": "", "AA==": "", "AAAA": "", "YW15AGEx": "", "amy": ""} {
		if name, ok := impl.UsersPlain(list, text); name != want || ok != (want != "") {
			t.Errorf("UsersPlain of %q is %q, %v", text, name, ok)
		}
	}
}

func TestP112TextsOfUsers(t *testing.T) {
	for _, list := range userLists() {
		for _, text := range userTexts(list) {
			name, ok := proverName(t, list, text)
			if !ok {
				continue
			}
			if u, found := impl.UsersFind(list, name); !found || impl.PlainMake(name, u.Pass) != text {
				t.Errorf("UsersPlain(%v, %q) is %q", list, text, name)
			}
		}
	}
}

func TestP112TextsWithOtherSigns(t *testing.T) {
	for _, list := range fewUserLists() {
		for _, u := range list {
			for _, text := range withOtherSigns(proofOf(u.Name, u.Pass)) {
				proverName(t, list, text)
			}
		}
	}
}

func TestP112TextsThatAreNoProofs(t *testing.T) {
	texts := append(proofTexts(), shortTexts("A=aB", 5)...)
	texts = append(texts, strings.Repeat("AGFteQBhMQ==", 10000), strings.Repeat("A", 100000), "AGFteQBhMQ=="+strings.Repeat("=", 100000))
	for _, list := range [][]impl.User{usersOf("amy:a1:60 bob:b2:20"), usersOf("a:a0:0 a0:a:5 abcdefgh:abcdefgh:200"), usersOf("0:a:9 a:0:9 aa:aa:9 amy:a1:9")} {
		for _, text := range texts {
			proverName(t, list, text)
		}
	}
}

// userResults has the results of all functions that take users.
type userResults struct {
	valid  bool
	found  [3]impl.User
	has    [3]bool
	proved [3]bool
	provers,
	proofs string
}

func askUsers(list []impl.User) userResults {
	r := userResults{valid: impl.UsersValid(list)}
	for i, u := range usersOf("amy:a1:0 bob:b2:0 other:other:0") {
		r.found[i], r.has[i] = impl.UsersFind(list, u.Name)
		r.proved[i] = impl.UsersProve(list, u.Name, u.Pass)
		name, ok := impl.UsersPlain(list, proofOf(u.Name, u.Pass))
		r.provers += name + ","
		r.proofs += strconv.FormatBool(ok) + ","
	}
	return r
}

func TestUsersKeepTheirMemory(t *testing.T) {
	for _, plain := range slices.Concat(userLists(), fewNotUserLists(), longUserLists()) {
		list := roomy(plain, impl.User{Name: "other", Pass: "other", Quota: 7})
		before := slices.Clone(whole(list))
		first, want := askUsers(list), askUsers(slices.Clone(plain))
		if first != want || !slices.Equal(whole(list), before) {
			t.Errorf("the users %.200v are changed, or those behind them are read: %v", plain, first)
		}
		for i := range whole(list) {
			whole(list)[i] = impl.User{Name: "overwritten", Pass: "overwritten", Quota: -1}
		}
		if first != want {
			t.Errorf("the results %v change with the users %.200v", first, plain)
		}
	}
}

func TestUsersOfNilAndEmptySlices(t *testing.T) {
	full := usersOf("amy:a1:60 bob:b2:20")
	want := askUsers(nil)
	if want.valid || want.has != [3]bool{} || want.found != [3]impl.User{} || want.proved != [3]bool{} || want.provers != ",,," || want.proofs != "false,false,false," {
		t.Errorf("without users, the results are %v", want)
	}
	for _, empty := range [][]impl.User{{}, make([]impl.User, 0, 5), full[:0]} {
		if got := askUsers(empty); got != want {
			t.Errorf("without users, the results are %v, not %v", got, want)
		}
		expectNoUsers(t, empty)
	}
	if !slices.Equal(full, usersOf("amy:a1:60 bob:b2:20")) {
		t.Errorf("the full list became %v", full)
	}
}
