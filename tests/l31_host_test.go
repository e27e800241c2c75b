package tests

import (
	"math"
	"runtime"
	"slices"
	"strconv"
	"strings"
	"sync"
	"testing"
	"testing/synctest"

	"loop.example/mailhost/impl"
)

// A second definition of hosts, against which the program is held: all is looked for in lists, from the first element
// to the last one, and all conditions of a function are asked for ahead of the one that decides.

// pathOf returns a text by which mailboxes are ordered: a slash is ahead of all bytes of names.
func pathOf(f impl.Folder) string {
	return f.Owner + "/" + f.Name
}

func folderNamed(h impl.Host, owner string, name string) (impl.Folder, bool) {
	at := slices.IndexFunc(h.Folders, func(f impl.Folder) bool { return f.Owner == owner && f.Name == name })
	if at < 0 {
		return impl.Folder{}, false
	}
	return h.Folders[at], true
}

// usedBy returns how many bytes a user has, message by message.
func usedBy(h impl.Host, user string) int {
	sum := 0
	for _, f := range h.Folders {
		for _, m := range f.Box.Mail {
			if f.Owner == user {
				sum += len(m.Text)
			}
		}
	}
	return sum
}

func quotaOf(h impl.Host, user string) int {
	u, _ := userCalled(h.Users, user)
	return u.Quota
}

// areFolders compares each mailbox with all those behind.
func areFolders(h impl.Host) bool {
	if len(h.Folders) > 8 {
		return false
	}
	for i, f := range h.Folders {
		if !isCalled(h.Users, f.Owner) || !isName(f.Name) || !isAcl(f.Grants) || !isBox(f.Box) {
			return false
		}
		for _, other := range h.Folders[i+1:] {
			if pathOf(f) >= pathOf(other) {
				return false
			}
		}
	}
	return true
}

func isHost(h impl.Host) bool {
	if !isDomain(h.Domain) || !isUsers(h.Users) || !isQueue(h.Queue) || !areFolders(h) {
		return false
	}
	for _, u := range h.Users {
		if _, ok := folderNamed(h, u.Name, "inbox"); !ok || usedBy(h, u.Name) > u.Quota {
			return false
		}
	}
	return !slices.ContainsFunc(copiesOf(h.Queue), func(c letterCopy) bool { return !isCalled(h.Users, c.from) || !isCalled(h.Users, c.user) })
}

// condition is one under which a function returns a code.
type condition struct {
	holds bool
	code  int
}

// firstCode returns the code of the first condition that holds, or 0.
func firstCode(list ...condition) int {
	at := slices.IndexFunc(list, func(c condition) bool { return c.holds })
	if at < 0 {
		return 0
	}
	return list[at].code
}

// checkOf returns the conditions under which a user may not use a mailbox with a right.
func checkOf(h impl.Host, user string, owner string, name string, right int) []condition {
	f, ok := folderNamed(h, owner, name)
	rights := rightsIn(f.Grants, owner, user)
	return []condition{{!isCalled(h.Users, user), 1}, {!ok, 1}, {!hasFlag(rights, 1), 1}, {!hasFlag(rights, right), 2}}
}

// outcome returns what a function returns with a code.
func outcome(h impl.Host, next impl.Host, code int) (impl.Host, int) {
	switch code {
	case 0:
		return next, code
	case 5:
		return impl.Host{}, code
	}
	return h, code
}

func withoutFolder(h impl.Host, path string) impl.Host {
	h.Folders = slices.DeleteFunc(slices.Clone(h.Folders), func(f impl.Folder) bool { return pathOf(f) == path })
	return h
}

// withFolder returns a host with a further mailbox, or with one in place of another.
func withFolder(h impl.Host, f impl.Folder) impl.Host {
	h = withoutFolder(h, pathOf(f))
	h.Folders = append(h.Folders, f)
	slices.SortStableFunc(h.Folders, func(a impl.Folder, b impl.Folder) int { return strings.Compare(pathOf(a), pathOf(b)) })
	return h
}

func withQueue(h impl.Host, q impl.Queue) impl.Host {
	h.Queue = q
	return h
}

// newHost is a second definition of HostNew.
func newHost(domain string, users []impl.User) (impl.Host, bool) {
	if !isDomain(domain) || !isUsers(users) {
		return impl.Host{}, false
	}
	h := impl.Host{Domain: domain, Users: users, Queue: impl.Queue{Next: 1}}
	for _, u := range users {
		h = withFolder(h, impl.Folder{Owner: u.Name, Name: "inbox", Box: impl.Box{Next: 1}})
	}
	return h, true
}

// withCreated is a second definition of HostCreate.
func withCreated(h impl.Host, user string, name string) (impl.Host, int) {
	_, there := folderNamed(h, user, name)
	code := firstCode(condition{!isHost(h) || !isName(name), 5}, condition{!isCalled(h.Users, user), 1}, condition{there, 4}, condition{len(h.Folders) == 8, 4})
	return outcome(h, withFolder(h, impl.Folder{Owner: user, Name: name, Box: impl.Box{Next: 1}}), code)
}

// withGranted is a second definition of HostGrant.
func withGranted(h impl.Host, by string, owner string, name string, user string, rights int) (impl.Host, int) {
	f, _ := folderNamed(h, owner, name)
	list, ok := withGrant(f.Grants, user, rights)
	f.Grants = list
	conditions := append([]condition{{!isHost(h) || !isRights(rights), 5}}, checkOf(h, by, owner, name, 32)...)
	code := firstCode(append(conditions, condition{user != "anyone" && !isCalled(h.Users, user), 1}, condition{!ok, 4})...)
	return outcome(h, withFolder(h, f), code)
}

// withPutIn is a second definition of HostPut.
func withPutIn(h impl.Host, by string, owner string, name string, flags int, text string) (impl.Host, int) {
	f, _ := folderNamed(h, owner, name)
	box, ok := appended(f.Box, flags, text)
	f.Box = box
	conditions := append([]condition{{!isHost(h) || !isFlags(flags) || len(text) > 20, 5}}, checkOf(h, by, owner, name, 8)...)
	code := firstCode(append(conditions, condition{usedBy(h, owner)+len(text) > quotaOf(h, owner), 3}, condition{!ok, 4})...)
	return outcome(h, withFolder(h, f), code)
}

// withSubmitted is a second definition of HostSubmit.
func withSubmitted(h impl.Host, x impl.Letter) (impl.Host, int) {
	queue, ok := withLetter(h.Queue, x)
	unknown := slices.ContainsFunc(append([]string{x.From}, x.To...), func(name string) bool { return !isCalled(h.Users, name) })
	code := firstCode(condition{!isHost(h) || !isLetter(x), 5}, condition{unknown, 1}, condition{!ok, 4})
	return outcome(h, withQueue(h, queue), code)
}

// withDelivered is a second definition of HostDeliver.
func withDelivered(h impl.Host, id int, user string) (impl.Host, int) {
	queue, text, ok := withoutCopy(h.Queue, id, user)
	f, _ := folderNamed(h, user, "inbox")
	box, fits := appended(f.Box, 0, text)
	f.Box = box
	lost := usedBy(h, user)+len(text) > quotaOf(h, user)
	code := firstCode(condition{!isHost(h), 5}, condition{!ok, 1}, condition{lost, 3}, condition{!fits, 4})
	if code == 3 {
		return withQueue(h, queue), code
	}
	return outcome(h, withQueue(withFolder(h, f), queue), code)
}

func sameFolder(a impl.Folder, b impl.Folder) bool {
	return pathOf(a) == pathOf(b) && slices.Equal(a.Grants, b.Grants) && sameBox(a.Box, b.Box)
}

func sameFolders(a []impl.Folder, b []impl.Folder) bool {
	return slices.EqualFunc(a, b, sameFolder)
}

func sameHost(a impl.Host, b impl.Host) bool {
	return a.Domain == b.Domain && slices.Equal(a.Users, b.Users) && sameFolders(a.Folders, b.Folders) && sameQueue(a.Queue, b.Queue)
}

func folderClone(f impl.Folder) impl.Folder {
	f.Grants, f.Box = slices.Clone(f.Grants), boxClone(f.Box)
	return f
}

// hostClone returns a copy that shares no memory.
func hostClone(h impl.Host) impl.Host {
	h.Users, h.Folders, h.Queue = slices.Clone(h.Users), slices.Clone(h.Folders), queueClone(h.Queue)
	for i, f := range h.Folders {
		h.Folders[i] = folderClone(f)
	}
	return h
}

// folderOf returns a mailbox of a path such as "amy/box1", with grants such as "anyone=3 bob=9".
func folderOf(path string, grants string, b impl.Box) impl.Folder {
	owner, name, _ := strings.Cut(path, "/")
	return impl.Folder{Owner: owner, Name: name, Grants: acl(grants), Box: b}
}

// boxOf returns a mailbox with some texts, which have numbers from 1 on and different flags.
func boxOf(next int, texts ...string) impl.Box {
	b := impl.Box{Next: next}
	for i, text := range texts {
		b.Mail = append(b.Mail, impl.Mail{Uid: i + 1, Flags: (11*i + 8) % 32, Text: text})
	}
	return b
}

// boxOfSize returns a mailbox whose messages have so many bytes together, in at most ten messages.
func boxOfSize(size int) impl.Box {
	var texts []string
	for ; size > 0; size -= min(size, 20) {
		texts = append(texts, strings.Repeat("x", min(size, 20)))
	}
	return boxOf(len(texts)+1, texts...)
}

// hostOf returns a host of users such as "amy:a1:60", with some mailboxes beside the inboxes or in place of them.
func hostOf(users string, q impl.Queue, list ...impl.Folder) impl.Host {
	h, ok := newHost("host.org", usersOf(users))
	if !ok {
		panic(users)
	}
	for _, f := range list {
		h = withFolder(h, f)
	}
	return withQueue(h, q)
}

// town has mailboxes of four users, with letters for all of them. Bob has room for 3 bytes, and dan for none; one of
// the mailboxes of cleo is full, and one has given all numbers.
func town() impl.Host {
	full := slices.Repeat([]string{"ten"}, 10)
	return hostOf("amy:a1:60 bob:b2:20 cleo:c3:200 dan:d4:0", impl.Queue{Next: 42, Items: []impl.Item{
		itemOf(3, "amy", "bob cleo", "one"), itemOf(7, "bob", "amy", ""), itemOf(20, "dan", "dan amy bob", "twenty bytes, twenty"), itemOf(41, "amy", "cleo amy dan", ""),
	}},
		folderOf("amy/box1", "anyone=3 bob=9", boxOf(8, "hello", "", "one two\n")),
		folderOf("amy/inbox", "", boxOf(3, "first", "second")),
		folderOf("bob/inbox", "amy=63 cleo=33", boxOf(2, strings.Repeat("x", 17))),
		folderOf("cleo/archive", "amy=1 anyone=62 cleo=1", boxOf(100, "old")),
		folderOf("cleo/inbox", "anyone=9 bob=2 dan=32 zed=63", boxOf(30, full...)),
		folderOf("dan/inbox", "bob=41", boxOf(3, "", "")),
	)
}

// manyFolders returns further mailboxes of a user.
func manyFolders(owner string, count int) []impl.Folder {
	var list []impl.Folder
	for i := range count {
		list = append(list, folderOf(owner+"/box"+strconv.Itoa(i), "anyone="+strconv.Itoa(1+2*i), boxOf(i+2, "x")))
	}
	return list
}

// manyItems returns a queue of letters between amy and bob.
func manyItems(next int, count int) impl.Queue {
	q := impl.Queue{Next: next}
	for i := range count {
		q.Items = append(q.Items, itemOf(i+1, []string{"amy", "bob"}[i%2], []string{"bob", "bob amy", "amy"}[i%3], strings.Repeat("y", 4*i)))
	}
	return q
}

// fewHosts are valid: with one user to MaxUsers, no quota left or some, full mailboxes and queues and others, names of
// which some begin with another one, and grants for all, for owners and for others.
func fewHosts() []impl.Host {
	full := slices.Repeat([]string{""}, 10)
	two := "amy:a1:60 bob:b2:20"
	return []impl.Host{
		town(), hostOf("amy:a1:60", impl.Queue{Next: 1}), hostOf(two, impl.Queue{Next: 1}), hostOf("0:a:0", impl.Queue{Next: 100}), hostOf("amy:a1:0 bob:b2:200", manyItems(7, 6)),
		hostOf("amy:a1:200", impl.Queue{Next: 5}, folderOf("amy/inbox", "", boxOfSize(200)), folderOf("amy/box", "", boxOf(1))), hostOf("amy:a1:200 bob:b2:1", manyItems(99, 5), folderOf("amy/inbox", "bob=63", boxOfSize(199)), folderOf("bob/box", "amy=9", boxOf(1))),
		hostOf("amy:a1:90", impl.Queue{Next: 1}, manyFolders("amy", 7)...), hostOf(two, manyItems(50, 3), manyFolders("bob", 5)...), hostOf(two, manyItems(50, 3), manyFolders("amy", 6)...),
		hostOf(two, manyItems(7, 6), folderOf("bob/inbox", "", boxOf(100))), hostOf(two, manyItems(100, 4), folderOf("bob/inbox", "amy=9", boxOf(11, full...)), folderOf("amy/inbox", "bob=5", boxOf(100, "last"))), hostOf(two, manyItems(100, 6), folderOf("bob/a", "anyone=1", boxOfSize(20))),
		hostOf("a:a:30 aa:a:30 aaa:a:30 b:a:30", impl.Queue{Next: 9, Items: []impl.Item{itemOf(8, "a", "aaa aa a", "a")}}, folderOf("a/b", "aa=9", boxOfSize(30)), folderOf("aa/a", "a=33", boxOfSize(29)), folderOf("a/zzzzzzzz", "", boxOf(1)), folderOf("aa/inbox0", "b=8", boxOf(2, "b"))),
		hostOf("amy:a1:60 anyon:q:60 anyone0:q:60", impl.Queue{Next: 1}, folderOf("amy/anyone", "amy=8 anyon=33 anyone=1 anyone0=9", boxOf(1)), folderOf("anyon/inbox", "a=63 b=63 c=63 d=63", boxOf(1)), folderOf("anyone0/inbox", "anyone=32 zed=1", boxOf(1))),
		hostOf("0:inbox:5 inbox:0:5", impl.Queue{Next: 42, Items: []impl.Item{itemOf(2, "0", "inbox", "12345"), itemOf(41, "inbox", "inbox 0", "123456")}}, folderOf("0/0", "inbox=41", boxOfSize(5)), folderOf("inbox/0", "", boxOf(3, "1"))),
		hostOf("amy:a1:60 bob:b2:20 cleo:c3:1", impl.Queue{Next: 60, Items: []impl.Item{itemOf(10, "amy", "bob", "twelve bytes"), itemOf(20, "bob", "cleo bob", "1234567890"), itemOf(30, "cleo", "bob amy cleo", "1"), itemOf(40, "bob", "bob", "12"), itemOf(50, "amy", "bob", "")}}),
		hostOf("amy:a1:10 bob:b2:10", manyItems(7, 6), folderOf("amy/inbox", "bob=63", boxOf(11, append(full[1:], "1234567890")...)), folderOf("bob/inbox", "amy=9", boxOf(100, "1234567890"))),
	}
}

// hostsOfUsers have inboxes without messages, for several lists of users and domains.
func hostsOfUsers() []impl.Host {
	var list []impl.Host
	for i, users := range fewUserLists() {
		h, _ := newHost(domains()[i%len(domains())], users)
		list = append(list, h)
	}
	return list
}

// hostsOfBoxes have several mailboxes as an inbox, and as another mailbox with the same letters for both users.
func hostsOfBoxes() []impl.Host {
	var list []impl.Host
	for i, b := range boxes() {
		if i%6 == 0 {
			list = append(list, hostOf("amy:a1:200 bob:b2:200", manyItems(9, 4), folderOf("amy/inbox", "bob=9", b), folderOf("bob/box", "anyone=9", b)))
		}
	}
	return list
}

func hosts() []impl.Host {
	return slices.Concat(fewHosts(), hostsOfUsers(), hostsOfBoxes())
}

// rightsHost returns a host in which bob has rights in a mailbox of amy by name and by Anyone; 0 stands for no grant.
func rightsHost(byName int, byAnyone int) impl.Host {
	list, _ := withGrant(acl("cleo=1"), "bob", byName)
	list, _ = withGrant(list, "anyone", byAnyone)
	f := folderOf("amy/box1", "", boxOf(3, "one", "two"))
	f.Grants = list
	return hostOf("amy:a1:60 bob:b2:20 cleo:c3:5", impl.Queue{Next: 1}, f)
}

// rightsHosts have all rights by name, by Anyone, and by both together.
func rightsHosts() []impl.Host {
	var list []impl.Host
	for rights := range 64 {
		list = append(list, rightsHost(rights, 0), rightsHost(0, rights), rightsHost(rights, 63-rights), rightsHost(rights, 1), rightsHost(8, rights))
	}
	return list
}

// hostNames are the users of a host, and names of others.
func hostNames(h impl.Host) []string {
	list := []string{"anyone", "zed", ""}
	for _, u := range h.Users {
		list = append(list, u.Name)
	}
	return list
}

// hostPaths are owners and names of all mailboxes, and of some that are not there.
func hostPaths(h impl.Host) [][2]string {
	list := [][2]string{{"zed", "inbox"}, {"anyone", "inbox"}, {h.Users[0].Name, "nobox"}, {"", ""}}
	for _, f := range h.Folders {
		list = append(list, [2]string{f.Owner, f.Name})
	}
	return list
}

// expectHost checks a host and a code that a call returned.
func expectHost(t *testing.T, got impl.Host, code int, want impl.Host, wanted int, call ...any) {
	t.Helper()
	if code != wanted || !sameHost(got, want) || code != impl.HostInvalid && !impl.HostValid(got) {
		t.Errorf("%.900q is %.900q, %d, not %.900q, %d", call, []any{got}, code, []any{want}, wanted)
	}
}

// isRefused reports whether a call that was not done changed nothing, and returned no host if an argument was invalid.
func isRefused(h impl.Host, next impl.Host, code int) bool {
	if code == impl.HostInvalid {
		return sameHost(next, impl.Host{})
	}
	return code == impl.HostDone || sameHost(next, h)
}

// codeOfRights returns the code of a call that needs a right of a user who has some.
func codeOfRights(rights int, needed int) int {
	return firstCode(condition{!hasFlag(rights, impl.RightSee), impl.HostNone}, condition{!hasFlag(rights, needed), impl.HostRights})
}

// createFolder returns HostCreate of any arguments, and checks it first; so do the next functions for others.
func createFolder(t *testing.T, h impl.Host, user string, name string) (impl.Host, int) {
	t.Helper()
	next, code := impl.HostCreate(h, user, name)
	want, wanted := withCreated(h, user, name)
	expectHost(t, next, code, want, wanted, "HostCreate", user, name, h)
	return next, code
}

func grantRights(t *testing.T, h impl.Host, by string, owner string, name string, user string, rights int) (impl.Host, int) {
	t.Helper()
	next, code := impl.HostGrant(h, by, owner, name, user, rights)
	want, wanted := withGranted(h, by, owner, name, user, rights)
	expectHost(t, next, code, want, wanted, "HostGrant", by, owner, name, user, rights, h)
	return next, code
}

func putMail(t *testing.T, h impl.Host, by string, owner string, name string, flags int, text string) (impl.Host, int) {
	t.Helper()
	next, code := impl.HostPut(h, by, owner, name, flags, text)
	want, wanted := withPutIn(h, by, owner, name, flags, text)
	expectHost(t, next, code, want, wanted, "HostPut", by, owner, name, flags, text, h)
	return next, code
}

func submitLetter(t *testing.T, h impl.Host, x impl.Letter) (impl.Host, int) {
	t.Helper()
	next, code := impl.HostSubmit(h, x)
	want, wanted := withSubmitted(h, x)
	expectHost(t, next, code, want, wanted, "HostSubmit", x, h)
	return next, code
}

func deliverCopy(t *testing.T, h impl.Host, id int, user string) (impl.Host, int) {
	t.Helper()
	next, code := impl.HostDeliver(h, id, user)
	want, wanted := withDelivered(h, id, user)
	expectHost(t, next, code, want, wanted, "HostDeliver", id, user, h)
	return next, code
}

// expectCodes checks that all codes of a function were seen.
func expectCodes(t *testing.T, seen map[int]int, codes ...int) {
	t.Helper()
	for _, code := range codes {
		if seen[code] == 0 {
			t.Errorf("the code %d was not seen", code)
		}
		delete(seen, code)
	}
	if len(seen) > 0 {
		t.Errorf("other codes were seen: %v", seen)
	}
}

// eachCreate calls check with each of the hosts and some arguments of HostCreate, and with what it returns; so do the
// next functions for others.
func eachCreate(t *testing.T, check func(h impl.Host, user string, name string, next impl.Host, code int)) {
	t.Helper()
	seen := map[int]int{}
	for _, h := range hosts() {
		for _, user := range hostNames(h) {
			for _, name := range []string{"inbox", "box1", "a", "b", "0", "anyone", "zzzzzzzz", "", "Box", "abcdefghi"} {
				next, code := createFolder(t, h, user, name)
				seen[code]++
				check(h, user, name, next, code)
			}
		}
	}
	expectCodes(t, seen, impl.HostDone, impl.HostNone, impl.HostFull, impl.HostInvalid)
}

type grantCall struct {
	by, owner, name, user string
	rights                int
}

func eachGrant(t *testing.T, check func(h impl.Host, c grantCall, next impl.Host, code int)) {
	t.Helper()
	seen := map[int]int{}
	for _, h := range append(fewHosts(), rightsHosts()[100:130]...) {
		for _, path := range hostPaths(h) {
			for _, by := range hostNames(h) {
				for _, user := range hostNames(h) {
					for _, rights := range []int{0, 1, 33, 63, -1, 64} {
						c := grantCall{by, path[0], path[1], user, rights}
						next, code := grantRights(t, h, c.by, c.owner, c.name, c.user, c.rights)
						seen[code]++
						check(h, c, next, code)
					}
				}
			}
		}
	}
	expectCodes(t, seen, impl.HostDone, impl.HostNone, impl.HostRights, impl.HostFull, impl.HostInvalid)
}

type putCall struct {
	by, owner, name string
	flags           int
	text            string
}

func eachPut(t *testing.T, check func(h impl.Host, c putCall, next impl.Host, code int)) {
	t.Helper()
	seen := map[int]int{}
	for i, h := range append(hosts(), rightsHosts()...) {
		for _, path := range hostPaths(h) {
			for j, by := range hostNames(h) {
				for _, text := range []string{"", "a", []string{"hello\n", strings.Repeat("y", 20), strings.Repeat("y", 21)}[(i+j)%3]} {
					c := putCall{by, path[0], path[1], []int{0, 31, 8, 5, 32, 1, -1}[(i+j+len(text))%7], text}
					next, code := putMail(t, h, c.by, c.owner, c.name, c.flags, c.text)
					seen[code]++
					check(h, c, next, code)
				}
			}
		}
	}
	expectCodes(t, seen, impl.HostDone, impl.HostNone, impl.HostRights, impl.HostQuota, impl.HostFull, impl.HostInvalid)
}

// lettersFor returns letters from and to all users of a host and others, and a few that are none.
func lettersFor(h impl.Host) []impl.Letter {
	list := []impl.Letter{{}, {From: h.Users[0].Name}, {From: h.Users[0].Name, To: []string{h.Users[0].Name}, Text: strings.Repeat("x", 21)}, {From: "zed", To: []string{"zed", "zed"}}}
	for i, from := range hostNames(h) {
		for _, to := range hostNames(h) {
			list = append(list, impl.Letter{From: from, To: []string{to}, Text: "hello\n"[:i]}, impl.Letter{From: from, To: []string{to, h.Users[i%len(h.Users)].Name}}, impl.Letter{From: from, To: []string{"zed", to, h.Users[0].Name}, Text: strings.Repeat("é", 10)})
		}
	}
	return list
}

func eachSubmit(t *testing.T, check func(h impl.Host, x impl.Letter, next impl.Host, code int)) {
	t.Helper()
	seen := map[int]int{}
	for _, h := range hosts() {
		for _, x := range lettersFor(h) {
			next, code := submitLetter(t, h, x)
			seen[code]++
			check(h, x, next, code)
		}
	}
	expectCodes(t, seen, impl.HostDone, impl.HostNone, impl.HostFull, impl.HostInvalid)
}

func eachDeliver(t *testing.T, check func(h impl.Host, c letterCopy, next impl.Host, code int)) {
	t.Helper()
	seen := map[int]int{}
	for _, h := range hosts() {
		list := copiesOf(h.Queue)
		for _, user := range hostNames(h) {
			for _, id := range append(idsOf(h.Queue), -1, 0, h.Queue.Next, 100, math.MaxInt) {
				list = append(list, letterCopy{id: id, user: user})
			}
		}
		for _, c := range list {
			next, code := deliverCopy(t, h, c.id, c.user)
			seen[code]++
			check(h, c, next, code)
		}
	}
	expectCodes(t, seen, impl.HostDone, impl.HostNone, impl.HostQuota, impl.HostFull)
}

// withUser returns a host in which a user is another one.
func withUser(h impl.Host, at int, u impl.User) impl.Host {
	h.Users = slices.Clone(h.Users)
	h.Users[at] = u
	return h
}

// withUsers returns a host with other users, and with further inboxes for them.
func withUsers(h impl.Host, list []impl.User) impl.Host {
	h.Users = list
	for _, u := range list {
		if _, ok := folderNamed(h, u.Name, "inbox"); !ok {
			h = withFolder(h, impl.Folder{Owner: u.Name, Name: "inbox", Box: impl.Box{Next: 1}})
		}
	}
	return h
}

// hostsOfOtherUsers have a fault in their list of users; where users have other names, there are mailboxes for them.
func hostsOfOtherUsers() []impl.Host {
	h, empty := town(), impl.Host{Domain: "host.org", Queue: impl.Queue{Next: 1}}
	list := []impl.Host{empty, withUsers(empty, []impl.User{}), withUsers(withQueue(h, empty.Queue), nil)}
	for at, u := range h.Users {
		for _, other := range faultyUsers(u) {
			if other.Name == u.Name {
				list = append(list, withUser(h, at, other))
			}
		}
	}
	for _, name := range append(notNames(), "anyone") {
		bad := []impl.User{{Name: name, Pass: "q", Quota: 60}}
		list = append(list, withUsers(empty, bad), withUsers(empty, append(bad, usersOf("zz:a1:60")...)), withUsers(empty, append(usersOf("0:a1:60"), bad...)))
	}
	for _, users := range append(usersInOtherOrders(h.Users), withUserTwice(usersOf("amy:a1:60 bob:b2:20"))...) {
		list = append(list, withUsers(h, users), withUsers(empty, users))
	}
	for _, users := range [][]impl.User{withAnyone(h.Users[:3]), longUserLists()[0], longUserLists()[1], longUserLists()[2][:8]} {
		list = append(list, withUsers(empty, users))
	}
	return list
}

// hostsOfOtherQueues have a fault in their queue, or a sender or a receiver who is no user.
func hostsOfOtherQueues() []impl.Host {
	h := town()
	letters := []impl.Letter{{}, {From: "amy", Text: "x"}, {From: "amy", To: []string{"bob", "bob"}}, {From: "amy", To: []string{"amy", "bob", "cleo", "dan"}}, {From: "amy", To: []string{"bob"}, Text: strings.Repeat("x", 21)}, {From: "", To: []string{"bob"}}}
	for _, name := range []string{"zed", "anyone", "am", "amyy", "inbox", "host", "0"} {
		letters = append(letters, impl.Letter{From: name, To: []string{"bob"}}, impl.Letter{From: "amy", To: []string{name}}, impl.Letter{From: "bob", To: []string{name, "amy"}, Text: "x"}, impl.Letter{From: "amy", To: []string{"bob", "amy", name}}, impl.Letter{From: "amy", To: []string{"dan", name, "amy"}})
	}
	queues := slices.Concat([]impl.Queue{{}, {Next: 101}, {Next: -1}, longQueues()[0], longQueues()[1]}, withOtherNexts(h.Queue), withOtherIds(h.Queue), withItemTwice(h.Queue), inOtherQueueOrders(h.Queue), withOtherLetters(h.Queue, letters))
	var list []impl.Host
	for _, q := range queues {
		list = append(list, withQueue(h, q), withQueue(hostOf("amy:a1:60 bob:b2:20 cleo:c3:0 dan:d4:9", q), q))
	}
	return list
}

// hostsOfOtherFolders have too many mailboxes, or mailboxes twice, or in another order, or of nobody, or without a name.
func hostsOfOtherFolders() []impl.Host {
	h := town()
	three, many := h, h
	for _, f := range manyFolders("cleo", 100) {
		many = withFolder(many, f)
		if len(many.Folders) == 9 {
			three = many
		}
	}
	list := []impl.Host{three, many}
	var paths []string
	for _, f := range h.Folders {
		paths = append(paths, pathOf(f))
		for at := range len(h.Folders) + 1 {
			twice, other := h, impl.Folder{Owner: f.Owner, Name: f.Name, Box: impl.Box{Next: 1}}
			twice.Folders = slices.Insert(slices.Clone(h.Folders), at, f)
			list = append(list, twice)
			twice.Folders = slices.Insert(slices.Clone(h.Folders), at, other)
			list = append(list, twice)
		}
	}
	for _, order := range orders(paths)[1:] {
		moved := h
		moved.Folders = nil
		for _, path := range order {
			moved.Folders = append(moved.Folders, h.Folders[slices.Index(paths, path)])
		}
		list = append(list, moved)
	}
	for _, text := range append(notNames(), "anyone", "zed", "am", "amyy", "box1", "inbox") {
		for _, name := range []string{"box", "inbox"} {
			list = append(list, withFolder(h, impl.Folder{Owner: text, Name: name, Box: impl.Box{Next: 1}}))
		}
	}
	for _, name := range notNames() {
		for _, owner := range []string{"amy", "dan"} {
			list = append(list, withFolder(h, impl.Folder{Owner: owner, Name: name, Box: impl.Box{Next: 1}}))
		}
	}
	return list
}

// hostsOfOtherBoxes have a mailbox with invalid grants or with an invalid Box.
func hostsOfOtherBoxes() []impl.Host {
	h := town()
	var list []impl.Host
	for _, f := range h.Folders {
		lists := append(fewNotAcls(), longAcls()[:2]...)
		for _, grants := range slices.Concat(lists, withFaults(acl("anyone=3 bob=9"))[:40], withTwice(acl("anyone=3 bob=9")), inOtherOrders(acl("amy=1 anyone=2 bob=4"))) {
			other := f
			other.Grants = grants
			list = append(list, withFolder(h, other))
		}
	}
	for i, b := range notBoxes() {
		path := []string{"cleo/archive", "cleo/inbox", "cleo/zzz"}[i%3]
		list = append(list, withFolder(h, folderOf(path, "", b)))
	}
	for _, path := range []string{"amy/inbox", "bob/a", "dan/inbox", "dan/zzz"} {
		for _, b := range []impl.Box{{}, {Next: 101}, {Next: -1}, boxOf(2, "", ""), boxOf(1, "")} {
			list = append(list, withFolder(h, folderOf(path, "", b)))
		}
	}
	return list
}

// hostsWithoutInboxes have users without one; some have other mailboxes, with names like it.
func hostsWithoutInboxes() []impl.Host {
	h := town()
	var list []impl.Host
	for _, u := range h.Users {
		none := withoutFolder(h, u.Name+"/inbox")
		list = append(list, none, withoutFolder(hostOf("amy:a1:60 bob:b2:20 cleo:c3:0 dan:d4:9", impl.Queue{Next: 1}), u.Name+"/inbox"))
		for _, name := range []string{"inbo", "inboxx", "nbox", "inbox0", "index", "xobni"} {
			list = append(list, withFolder(none, folderOf(u.Name+"/"+name, "", impl.Box{Next: 1})))
		}
	}
	return append(list, impl.Host{Domain: "host.org", Users: usersOf("amy:a1:60"), Queue: impl.Queue{Next: 1}}, impl.Host{Domain: "host.org", Users: h.Users, Queue: impl.Queue{Next: 1}, Folders: h.Folders[:1]})
}

// hostsOverQuotas have users with too many bytes, in one mailbox or in several.
func hostsOverQuotas() []impl.Host {
	h := town()
	list := []impl.Host{
		withFolder(h, folderOf("bob/inbox", "", boxOfSize(21))), withFolder(h, folderOf("bob/a", "", boxOfSize(4))), withFolder(h, folderOf("bob/zzz", "", boxOfSize(4))), withFolder(h, folderOf("dan/inbox", "", boxOf(90, "1"))), withFolder(h, folderOf("dan/a", "", boxOfSize(1))),
		withFolder(withFolder(h, folderOf("cleo/a", "", boxOfSize(150))), folderOf("cleo/b", "", boxOfSize(18))), withFolder(h, folderOf("cleo/inbox", "", boxOfSize(198))), hostOf("amy:a1:200", impl.Queue{Next: 1}, folderOf("amy/inbox", "", boxOfSize(200)), folderOf("amy/box", "", boxOfSize(1))),
	}
	for at, u := range h.Users {
		for _, quota := range []int{usedBy(h, u.Name) - 1, usedBy(h, u.Name) / 2, 0} {
			if quota < usedBy(h, u.Name) {
				list = append(list, withUser(h, at, impl.User{Name: u.Name, Pass: u.Pass, Quota: quota}))
			}
		}
	}
	return list
}

// hostsOfOtherDomains have no domain.
func hostsOfOtherDomains() []impl.Host {
	var list []impl.Host
	for _, domain := range notDomains() {
		for _, h := range fewHosts()[:3] {
			h.Domain = domain
			list = append(list, h)
		}
	}
	return list
}

// notHosts have one fault each as far as that is possible.
func notHosts() []impl.Host {
	return slices.Concat([]impl.Host{{}, {Users: []impl.User{}, Folders: []impl.Folder{}}}, hostsOfOtherDomains(), hostsOfOtherUsers(), hostsOfOtherQueues(), hostsOfOtherFolders(), hostsOfOtherBoxes(), hostsWithoutInboxes(), hostsOverQuotas())
}

// fewNotHosts have all kinds of faults.
func fewNotHosts() []impl.Host {
	var list []impl.Host
	for _, all := range [][]impl.Host{hostsOfOtherDomains(), hostsOfOtherUsers(), hostsOfOtherQueues(), hostsOfOtherFolders(), hostsOfOtherBoxes(), hostsWithoutInboxes(), hostsOverQuotas()} {
		for i, h := range all {
			if i%(1+len(all)/12) == 0 {
				list = append(list, h)
			}
		}
	}
	return append(list, impl.Host{})
}

// codeCalls are calls of each function with a code: one that would be done in the town, and others that would be refused.
var codeCalls = map[string]func(h impl.Host) (impl.Host, int){
	"HostCreate":                func(h impl.Host) (impl.Host, int) { return impl.HostCreate(h, "amy", "new") },
	"HostCreate for nobody":     func(h impl.Host) (impl.Host, int) { return impl.HostCreate(h, "zed", "new") },
	"HostCreate of an inbox":    func(h impl.Host) (impl.Host, int) { return impl.HostCreate(h, "amy", "inbox") },
	"HostCreate of no name":     func(h impl.Host) (impl.Host, int) { return impl.HostCreate(h, "amy", "") },
	"HostGrant":                 func(h impl.Host) (impl.Host, int) { return impl.HostGrant(h, "amy", "amy", "inbox", "bob", 3) },
	"HostGrant in no mailbox":   func(h impl.Host) (impl.Host, int) { return impl.HostGrant(h, "amy", "amy", "nobox", "bob", 3) },
	"HostGrant without a right": func(h impl.Host) (impl.Host, int) { return impl.HostGrant(h, "bob", "amy", "box1", "bob", 3) },
	"HostGrant to nobody":       func(h impl.Host) (impl.Host, int) { return impl.HostGrant(h, "amy", "amy", "inbox", "zed", 3) },
	"HostGrant of no rights":    func(h impl.Host) (impl.Host, int) { return impl.HostGrant(h, "amy", "amy", "inbox", "bob", 64) },
	"HostPut":                   func(h impl.Host) (impl.Host, int) { return impl.HostPut(h, "amy", "amy", "inbox", 1, "x") },
	"HostPut by nobody":         func(h impl.Host) (impl.Host, int) { return impl.HostPut(h, "zed", "amy", "inbox", 1, "x") },
	"HostPut without a right":   func(h impl.Host) (impl.Host, int) { return impl.HostPut(h, "cleo", "amy", "box1", 1, "x") },
	"HostPut beyond the quota":  func(h impl.Host) (impl.Host, int) { return impl.HostPut(h, "dan", "dan", "inbox", 1, "x") },
	"HostPut into a full one":   func(h impl.Host) (impl.Host, int) { return impl.HostPut(h, "cleo", "cleo", "inbox", 1, "x") },
	"HostPut of no flags":       func(h impl.Host) (impl.Host, int) { return impl.HostPut(h, "amy", "amy", "inbox", 32, "x") },
	"HostSubmit": func(h impl.Host) (impl.Host, int) {
		return impl.HostSubmit(h, impl.Letter{From: "amy", To: []string{"bob", "dan"}})
	},
	"HostSubmit to nobody": func(h impl.Host) (impl.Host, int) {
		return impl.HostSubmit(h, impl.Letter{From: "amy", To: []string{"zed"}})
	},
	"HostSubmit of no letter":    func(h impl.Host) (impl.Host, int) { return impl.HostSubmit(h, impl.Letter{}) },
	"HostDeliver":                func(h impl.Host) (impl.Host, int) { return impl.HostDeliver(h, 3, "bob") },
	"HostDeliver of no item":     func(h impl.Host) (impl.Host, int) { return impl.HostDeliver(h, 4, "bob") },
	"HostDeliver and lose":       func(h impl.Host) (impl.Host, int) { return impl.HostDeliver(h, 20, "bob") },
	"HostDeliver to a full one":  func(h impl.Host) (impl.Host, int) { return impl.HostDeliver(h, 3, "cleo") },
	"HostDeliver of what is not": func(h impl.Host) (impl.Host, int) { return impl.HostDeliver(h, -1, "") },
}

// expectNoHost checks that all functions refuse an invalid host.
func expectNoHost(t *testing.T, h impl.Host) {
	t.Helper()
	if impl.HostValid(h) || isHost(h) {
		t.Errorf("HostValid(%.900q) holds", []any{h})
	}
	for _, user := range []string{"amy", "bob", "zed", ""} {
		if used := impl.HostUsed(h, user); used != -1 {
			t.Errorf("HostUsed(%.900q, %q) is %d", []any{h}, user, used)
		}
		if f, ok := impl.HostFolder(h, user, "inbox"); ok || !sameFolder(f, impl.Folder{}) {
			t.Errorf("HostFolder(%.900q, %q) is %q, %v", []any{h}, user, []any{f}, ok)
		}
	}
	for name, call := range codeCalls {
		if next, code := call(h); code != impl.HostInvalid || !sameHost(next, impl.Host{}) {
			t.Errorf("%s of %.900q is %.300q, %d", name, []any{h}, []any{next}, code)
		}
	}
}

func TestConstantsOfHosts(t *testing.T) {
	if impl.MaxFolders != 8 || impl.Inbox != "inbox" {
		t.Errorf("the limit is %d, and the inbox is called %q", impl.MaxFolders, impl.Inbox)
	}
	codes := []int{impl.HostDone, impl.HostNone, impl.HostRights, impl.HostQuota, impl.HostFull, impl.HostInvalid}
	if !slices.Equal(codes, []int{0, 1, 2, 3, 4, 5}) {
		t.Errorf("the codes are %v", codes)
	}
}

func TestHostsAreValid(t *testing.T) {
	for _, h := range append(hosts(), rightsHosts()...) {
		if !impl.HostValid(h) || !isHost(h) {
			t.Errorf("HostValid(%q) does not hold", []any{h})
		}
	}
	for _, list := range acls() {
		h := hostOf("amy:a1:60", impl.Queue{Next: 1})
		h.Folders[0].Grants = list
		if !impl.HostValid(h) {
			t.Errorf("HostValid with the grants %v does not hold", list)
		}
	}
	for _, b := range boxes() {
		if h := hostOf("amy:a1:200", impl.Queue{Next: 1}, folderOf("amy/inbox", "", b)); !impl.HostValid(h) {
			t.Errorf("HostValid with the mailbox %q does not hold", []any{b})
		}
	}
}

func TestHostsAreInvalid(t *testing.T) {
	for _, h := range notHosts() {
		expectNoHost(t, h)
	}
	var long []impl.Folder
	for n := range 100000 {
		long = append(long, impl.Folder{Owner: "amy", Name: "b" + strconv.Itoa(1000000 + n)[1:], Box: impl.Box{Next: 1}})
	}
	for _, count := range []int{8, 9, 16, 255, 256, 257, 263, 65536, 100000} {
		h := hostOf("amy:a1:60", impl.Queue{Next: 1})
		h.Folders = append(slices.Clone(long[:count]), h.Folders...)
		expectNoHost(t, h)
	}
}

// All lists of up to four of some mailboxes, of which some are of nobody, or without a name, or the same.
func TestHostsOfAnyFolders(t *testing.T) {
	one := impl.Box{Next: 1}
	folders := []impl.Folder{folderOf("a/inbox", "", one), folderOf("b/inbox", "b=1", one), folderOf("a/b", "", boxOfSize(3)), folderOf("a/inbox0", "", boxOfSize(2)), folderOf("b/a", "", boxOfSize(5)), folderOf("c/inbox", "", one), folderOf("a/B", "", one)}
	valid := 0
	for _, text := range shortTexts("0123456", 4) {
		for _, users := range []string{"a:a:5", "a:a:4 b:b:5", "b:b:4"} {
			h := impl.Host{Domain: "org", Users: usersOf(users), Queue: impl.Queue{Next: 1}}
			for _, sign := range []byte(text) {
				h.Folders = append(h.Folders, folders[sign-'0'])
			}
			if impl.HostValid(h) != isHost(h) {
				t.Errorf("HostValid is %v for %q", !isHost(h), []any{h})
			}
			if isHost(h) {
				valid++
			}
		}
	}
	if valid != 11 {
		t.Errorf("%d of the hosts are valid", valid)
	}
}

func TestP148NewHosts(t *testing.T) {
	for i, users := range userLists() {
		domain := domains()[i%len(domains())]
		h, ok := impl.HostNew(domain, users)
		want, wanted := newHost(domain, users)
		if !ok || !wanted || !sameHost(h, want) || !impl.HostValid(h) {
			t.Errorf("HostNew(%q, %v) is %q, %v", domain, users, []any{h}, ok)
		}
		if h.Domain != domain || !slices.Equal(h.Users, users) || len(h.Folders) != len(users) || h.Queue.Next != 1 || len(h.Queue.Items) != 0 {
			t.Errorf("HostNew(%q, %v) has other parts: %q", domain, users, []any{h})
		}
		for at, f := range h.Folders {
			if f.Owner != users[at].Name || f.Name != "inbox" || len(f.Grants) != 0 || f.Box.Next != 1 || len(f.Box.Mail) != 0 {
				t.Errorf("HostNew(%q, %v) has the mailbox %q", domain, users, []any{f})
			}
		}
	}
}

func TestP149HostsThatAreNotMade(t *testing.T) {
	expectNone := func(domain string, users []impl.User) {
		t.Helper()
		if h, ok := impl.HostNew(domain, users); ok || !sameHost(h, impl.Host{}) {
			t.Errorf("HostNew(%q, %.300v) is %q, %v", domain, users, []any{h}, ok)
		}
	}
	for _, domain := range notDomains() {
		for _, users := range append(fewUserLists(), fewNotUserLists()...) {
			expectNone(domain, users)
		}
	}
	for i, users := range notUserLists() {
		expectNone(domains()[i%len(domains())], users)
		expectNone("", users)
	}
}

func TestP149Domains(t *testing.T) {
	for _, domain := range domains() {
		for _, users := range fewUserLists() {
			if h, ok := impl.HostNew(domain, users); !ok || h.Domain != domain || !impl.HostValid(h) {
				t.Errorf("HostNew(%q, %v) is %q, %v", domain, users, []any{h}, ok)
			}
		}
	}
	for i, users := range shortUserLists() {
		if h, ok := impl.HostNew(domains()[i%len(domains())], users); ok != isUsers(users) || ok != impl.HostValid(h) {
			t.Errorf("HostNew(%v) is %q, %v", users, []any{h}, ok)
		}
	}
}

func TestP150BytesOfUsers(t *testing.T) {
	for _, h := range hosts() {
		for _, u := range h.Users {
			sum := 0
			for _, f := range h.Folders {
				if f.Owner == u.Name {
					sum += impl.BoxSize(f.Box)
				}
			}
			if used := impl.HostUsed(h, u.Name); used != sum || used != usedBy(h, u.Name) || used > u.Quota {
				t.Errorf("HostUsed(%q, %q) is %d", []any{h}, u.Name, used)
			}
		}
		for _, name := range append(notNames(), "anyone", "zed", "inbox0", "box1", h.Users[0].Name+" ", "A"+h.Users[0].Name) {
			if used := impl.HostUsed(h, name); used != -1 {
				t.Errorf("HostUsed(%q, %q) is %d", []any{h}, name, used)
			}
		}
	}
	for user, want := range map[string]int{"amy": 24, "bob": 17, "cleo": 33, "dan": 0, "anyone": -1, "zed": -1, "": -1, "am": -1} {
		if used := impl.HostUsed(town(), user); used != want {
			t.Errorf("HostUsed of the town is %d for %q", used, user)
		}
	}
}

// findFolder returns HostFolder of any arguments, and checks it first.
func findFolder(t *testing.T, h impl.Host, owner string, name string) (impl.Folder, bool) {
	t.Helper()
	f, ok := impl.HostFolder(h, owner, name)
	want, wanted := folderNamed(h, owner, name)
	if ok != wanted || !sameFolder(f, want) {
		t.Errorf("HostFolder(%.900q, %q, %q) is %q, %v", []any{h}, owner, name, []any{f}, ok)
	}
	return f, ok
}

func TestP151FoldersOfOthers(t *testing.T) {
	for _, h := range hosts() {
		names := append(hostNames(h), notNames()...)
		for _, f := range h.Folders {
			names = append(names, f.Name, f.Name+"0", f.Name[1:], pathOf(f))
		}
		for _, owner := range names {
			for _, name := range names {
				f, ok := findFolder(t, h, owner, name)
				if ok && (f.Owner != owner || f.Name != name || !slices.ContainsFunc(h.Folders, func(other impl.Folder) bool { return sameFolder(f, other) })) {
					t.Errorf("HostFolder(%q, %q, %q) is %q", []any{h}, owner, name, []any{f})
				}
			}
		}
	}
}

func TestP152FoldersAreFound(t *testing.T) {
	for _, h := range hosts() {
		for _, f := range h.Folders {
			if got, ok := findFolder(t, h, f.Owner, f.Name); !ok || !sameFolder(got, f) {
				t.Errorf("HostFolder(%q, %q, %q) is %q, %v", []any{h}, f.Owner, f.Name, []any{got}, ok)
			}
		}
		for _, u := range h.Users {
			if got, ok := findFolder(t, h, u.Name, impl.Inbox); !ok || got.Owner != u.Name || got.Name != "inbox" {
				t.Errorf("HostFolder(%q, %q, Inbox) is %q, %v", []any{h}, u.Name, []any{got}, ok)
			}
		}
	}
}

func TestP153WithoutAMailbox(t *testing.T) {
	kept, gone := 0, 0
	for _, h := range hosts() {
		for _, f := range h.Folders {
			x := withoutFolder(h, pathOf(f))
			if impl.HostValid(x) != (f.Name != impl.Inbox) {
				t.Errorf("HostValid is wrong for %q", []any{x})
			}
			if f.Name == impl.Inbox {
				gone++
			} else {
				kept++
			}
		}
		if x := withQueue(h, impl.Queue{Next: 1}); !impl.HostValid(x) {
			t.Errorf("HostValid(%q) does not hold", []any{x})
		}
	}
	if kept < 20 || gone < 20 {
		t.Errorf("%d mailboxes and %d inboxes were left out", kept, gone)
	}
}

func TestP154QuotasOfWhatIsUsed(t *testing.T) {
	for _, h := range hosts() {
		for at, u := range h.Users {
			for _, less := range []int{0, 1} {
				x := withUser(h, at, impl.User{Name: u.Name, Pass: u.Pass, Quota: impl.HostUsed(h, u.Name) - less})
				if impl.HostValid(x) != (less == 0) || isHost(x) != (less == 0) {
					t.Errorf("with the quota %d of %q, HostValid is wrong for %q", x.Users[at].Quota, u.Name, []any{x})
				}
			}
		}
	}
}

// Each number of bytes, in one mailbox and in two, with the quotas beside it.
func TestP154AllQuotas(t *testing.T) {
	for size := range 201 {
		for _, other := range []int{0, 1, size / 2, size} {
			for _, quota := range []int{size - 1, size, size + 1} {
				h := hostOf("amy:a1:200 bob:b2:0", impl.Queue{Next: 1}, folderOf("amy/inbox", "", boxOfSize(size-min(size, other))), folderOf("amy/box", "", boxOfSize(min(size, other))))
				h.Users[0].Quota = quota
				if impl.HostValid(h) != (size <= quota && quota <= 200) {
					t.Errorf("HostValid is wrong for %d bytes and the quota %d", size, quota)
				}
			}
		}
	}
}

func TestP155CreatedMailboxes(t *testing.T) {
	eachCreate(t, func(h impl.Host, user string, name string, next impl.Host, code int) {
		f, ok := impl.HostFolder(next, user, name)
		if code == impl.HostDone && (!ok || len(f.Grants) != 0 || len(f.Box.Mail) != 0 || f.Box.Next != 1 || !sameHost(withoutFolder(next, user+"/"+name), h)) {
			t.Errorf("HostCreate(%q, %q, %q) is %q", []any{h}, user, name, []any{next})
		}
		if known := isCalled(h.Users, user); code != impl.HostInvalid && known != (code != impl.HostNone) || isName(name) != (code != impl.HostInvalid) {
			t.Errorf("HostCreate(%q, %q, %q) has the code %d", []any{h}, user, name, code)
		}
	})
}

// Mailboxes are put ahead of, between and behind others.
func TestP155PlacesOfMailboxes(t *testing.T) {
	h := hostOf("a:a:9 aa:a:9 b:b:9", impl.Queue{Next: 1})
	for _, order := range orders([]string{"a/a", "a/zz", "aa/inbox0", "b/b", "aa/9"}) {
		x := h
		for _, path := range order {
			owner, name, _ := strings.Cut(path, "/")
			next, code := createFolder(t, x, owner, name)
			if code != impl.HostDone {
				t.Errorf("HostCreate(%q, %q) has the code %d", []any{x}, path, code)
			}
			x = next
		}
		var paths []string
		for _, f := range x.Folders {
			paths = append(paths, pathOf(f))
		}
		if strings.Join(paths, " ") != "a/a a/inbox a/zz aa/9 aa/inbox aa/inbox0 b/b b/inbox" {
			t.Errorf("in the order %v, the mailboxes are %v", order, paths)
		}
	}
}

func TestP156CreatedTwice(t *testing.T) {
	eachCreate(t, func(h impl.Host, user string, name string, next impl.Host, code int) {
		if again, twice := createFolder(t, next, user, name); code == impl.HostDone && (twice != impl.HostFull || !sameHost(again, next)) {
			t.Errorf("the second HostCreate(%q, %q, %q) is %q, %d", []any{h}, user, name, []any{again}, twice)
		}
		_, there := impl.HostFolder(h, user, name)
		if known := isCalled(h.Users, user); known && isName(name) && (code == impl.HostFull) != (there || len(h.Folders) == impl.MaxFolders) {
			t.Errorf("HostCreate(%q, %q, %q) has the code %d", []any{h}, user, name, code)
		}
	})
}

func TestP156CreatesUntilFull(t *testing.T) {
	for _, users := range fewUserLists() {
		h, _ := impl.HostNew("org", users)
		for i := range 10 {
			want := impl.HostDone
			if i >= 8-len(users) {
				want = impl.HostFull
			}
			next, code := createFolder(t, h, users[i%len(users)].Name, "box"+strconv.Itoa(i))
			if code != want {
				t.Errorf("HostCreate of the further mailbox %d of %v has the code %d", i, users, code)
			}
			h = next
		}
		if len(h.Folders) != impl.MaxFolders || !impl.HostValid(h) {
			t.Errorf("the host becomes %q", []any{h})
		}
	}
}

// All names are mailboxes of users, and no other texts are.
func TestP156NamesOfMailboxes(t *testing.T) {
	h := hostOf("amy:a1:60 bob:b2:20", impl.Queue{Next: 1})
	for _, name := range append(names(), "anyone", "amy", "host") {
		if next, code := createFolder(t, h, "bob", name); code != impl.HostDone || len(next.Folders) != 3 {
			t.Errorf("HostCreate of %q is %q, %d", name, []any{next}, code)
		}
	}
	for _, name := range notNames() {
		for _, x := range fewHosts() {
			for _, user := range hostNames(x) {
				if next, code := createFolder(t, x, user, name); code != impl.HostInvalid || !sameHost(next, impl.Host{}) {
					t.Errorf("HostCreate of %q is %q, %d", name, []any{next}, code)
				}
			}
		}
		if next, code := createFolder(t, h, name, "box"); code != impl.HostNone || !sameHost(next, h) {
			t.Errorf("HostCreate for %q is %q, %d", name, []any{next}, code)
		}
	}
}

// grantsOf returns the grants of a mailbox of a host.
func grantsOf(h impl.Host, owner string, name string) []impl.Grant {
	f, _ := folderNamed(h, owner, name)
	return f.Grants
}

// otherParts returns a host without one mailbox, in which all that a call for this mailbox keeps is left.
func otherParts(h impl.Host, owner string, name string) impl.Host {
	return withoutFolder(h, owner+"/"+name)
}

func TestP157GrantedRights(t *testing.T) {
	eachGrant(t, func(h impl.Host, c grantCall, next impl.Host, code int) {
		if code != impl.HostDone {
			return
		}
		before, _ := folderNamed(h, c.owner, c.name)
		f, _ := impl.HostFolder(next, c.owner, c.name)
		if grantedTo(f.Grants, c.user) != c.rights || !sameBox(f.Box, before.Box) || !sameHost(otherParts(next, c.owner, c.name), otherParts(h, c.owner, c.name)) {
			t.Errorf("HostGrant(%q, %q) is %q", []any{h}, []any{c}, []any{next})
		}
		for _, user := range append(hostNames(h), aclUsers()...) {
			if user != c.user && grantedTo(f.Grants, user) != grantedTo(before.Grants, user) {
				t.Errorf("HostGrant(%q, %q) changes the rights of %q", []any{h}, []any{c}, user)
			}
		}
	})
}

func TestP157AllRights(t *testing.T) {
	h := rightsHost(40, 1)
	for rights := range 64 {
		for _, user := range []string{"amy", "bob", "cleo", "anyone"} {
			next, code := grantRights(t, h, "bob", "amy", "box1", user, rights)
			if code != impl.HostDone || grantedTo(grantsOf(next, "amy", "box1"), user) != rights {
				t.Errorf("HostGrant of %d to %q is %q, %d", rights, user, []any{next}, code)
			}
		}
	}
	for _, rights := range notRights() {
		for _, user := range []string{"amy", "anyone", "zed"} {
			for _, by := range []string{"amy", "bob", "cleo", "zed"} {
				for _, name := range []string{"box1", "nobox"} {
					if next, code := grantRights(t, h, by, "amy", name, user, rights); code != impl.HostInvalid || !sameHost(next, impl.Host{}) {
						t.Errorf("HostGrant of %d by %q to %q is %q, %d", rights, by, user, []any{next}, code)
					}
				}
			}
		}
	}
}

func TestP157NamedGrants(t *testing.T) {
	h := hostOf("amy:a1:60 bob:b2:20 cleo:c3:5", impl.Queue{Next: 1}, folderOf("amy/box1", "anyone=1 bob=33", boxOf(3, "one")), folderOf("amy/full", "a=1 b=2 bob=33 z=3", boxOf(1)))
	for _, c := range []struct {
		by, name, user string
		rights         int
		code           int
		list           string
	}{
		{"amy", "box1", "cleo", 3, 0, "anyone=1 bob=33 cleo=3"}, {"bob", "box1", "cleo", 63, 0, "anyone=1 bob=33 cleo=63"}, {"bob", "box1", "bob", 1, 0, "anyone=1 bob=1"}, {"bob", "box1", "bob", 0, 0, "anyone=1"},
		{"bob", "box1", "anyone", 0, 0, "bob=33"}, {"bob", "box1", "anyone", 8, 0, "anyone=8 bob=33"}, {"bob", "box1", "amy", 2, 0, "amy=2 anyone=1 bob=33"}, {"amy", "box1", "amy", 0, 0, "anyone=1 bob=33"},
		{"cleo", "box1", "cleo", 63, 2, "anyone=1 bob=33"}, {"cleo", "box1", "zed", 63, 2, "anyone=1 bob=33"}, {"amy", "box1", "zed", 1, 1, "anyone=1 bob=33"}, {"bob", "box1", "zed", 0, 1, "anyone=1 bob=33"},
		{"amy", "full", "cleo", 3, 4, "a=1 b=2 bob=33 z=3"}, {"bob", "full", "anyone", 3, 4, "a=1 b=2 bob=33 z=3"}, {"bob", "full", "amy", 3, 4, "a=1 b=2 bob=33 z=3"}, {"amy", "full", "cleo", 0, 0, "a=1 b=2 bob=33 z=3"},
		{"amy", "full", "bob", 9, 0, "a=1 b=2 bob=9 z=3"}, {"bob", "full", "bob", 0, 0, "a=1 b=2 z=3"}, {"amy", "full", "z", 9, 1, "a=1 b=2 bob=33 z=3"}, {"cleo", "full", "cleo", 3, 1, "a=1 b=2 bob=33 z=3"}, {"anyone", "box1", "bob", 1, 1, "anyone=1 bob=33"},
		{"amy", "inbox", "bob", 5, 0, "bob=5"}, {"bob", "inbox", "bob", 5, 1, ""}, {"amy", "inbox", "anyone", 63, 0, "anyone=63"}, {"amy", "inbox", "", 5, 1, ""}, {"", "inbox", "bob", 5, 1, ""}, {"amy", "inbox", "bob", 64, 5, ""},
	} {
		next, code := impl.HostGrant(h, c.by, "amy", c.name, c.user, c.rights)
		if code != c.code || !slices.Equal(grantsOf(next, "amy", c.name), acl(c.list)) {
			t.Errorf("HostGrant in %q by %q to %q of %d is %q, %d", c.name, c.by, c.user, c.rights, []any{next}, code)
		}
	}
}

func TestP158RightToGrant(t *testing.T) {
	eachGrant(t, func(h impl.Host, c grantCall, _ impl.Host, code int) {
		rights := impl.AclRights(grantsOf(h, c.owner, c.name), c.owner, c.by)
		if code == impl.HostDone && (!hasFlag(rights, impl.RightSee) || !hasFlag(rights, impl.RightGrant)) || code == impl.HostRights && (!hasFlag(rights, impl.RightSee) || hasFlag(rights, impl.RightGrant)) {
			t.Errorf("HostGrant(%q, %q) has the code %d", []any{h}, []any{c}, code)
		}
	})
	for _, h := range rightsHosts() {
		rights := rightsIn(grantsOf(h, "amy", "box1"), "amy", "bob")
		if _, code := grantRights(t, h, "bob", "amy", "box1", "cleo", 5); code != codeOfRights(rights, impl.RightGrant) {
			t.Errorf("with the rights %d, HostGrant has the code %d", rights, code)
		}
		if _, code := grantRights(t, h, "amy", "amy", "box1", "cleo", 5); code != impl.HostDone {
			t.Errorf("HostGrant by the owner has the code %d", code)
		}
	}
}

func TestP159GrantsThatAreRefused(t *testing.T) {
	eachGrant(t, func(h impl.Host, c grantCall, next impl.Host, code int) {
		if !isRefused(h, next, code) {
			t.Errorf("HostGrant(%q, %q) is %q, %d", []any{h}, []any{c}, []any{next}, code)
		}
	})
}

func TestP160GrantsTakenBack(t *testing.T) {
	eachGrant(t, func(h impl.Host, c grantCall, next impl.Host, code int) {
		if code != impl.HostDone {
			return
		}
		before := grantedTo(grantsOf(h, c.owner, c.name), c.user)
		if back, code := grantRights(t, next, c.owner, c.owner, c.name, c.user, before); code != impl.HostDone || !sameHost(back, h) {
			t.Errorf("after HostGrant(%q, %q), the rights before lead to %q, %d", []any{h}, []any{c}, []any{back}, code)
		}
	})
}

func TestP161MessagesPut(t *testing.T) {
	eachPut(t, func(h impl.Host, c putCall, next impl.Host, code int) {
		if code != impl.HostDone {
			return
		}
		before, _ := folderNamed(h, c.owner, c.name)
		f, _ := impl.HostFolder(next, c.owner, c.name)
		want, ok := impl.BoxAppend(before.Box, c.flags, c.text)
		if !ok || !sameBox(f.Box, want) || !slices.Equal(f.Grants, before.Grants) || !sameHost(otherParts(next, c.owner, c.name), otherParts(h, c.owner, c.name)) {
			t.Errorf("HostPut(%q, %q) is %q", []any{h}, []any{c}, []any{next})
		}
	})
}

func TestP161AnyFlagsAndTexts(t *testing.T) {
	h := hostOf("amy:a1:60 bob:b2:20", impl.Queue{Next: 1}, folderOf("bob/box", "amy=9", boxOf(5, "x")))
	for _, flags := range anyNumbers() {
		for _, text := range append(mailTexts()[:3], longTexts()...) {
			next, code := putMail(t, h, "amy", "bob", "box", flags, text)
			if valid := isFlags(flags) && len(text) <= 20; valid != (code == impl.HostDone) || !valid && code != impl.HostInvalid {
				t.Errorf("HostPut of %d, %q is %q, %d", flags, text, []any{next}, code)
			}
			putMail(t, h, "zed", "bob", "nobox", flags, text)
			putMail(t, h, "bob", "amy", "inbox", flags, text)
		}
	}
	for _, text := range mailTexts() {
		if next, code := putMail(t, h, "bob", "bob", "inbox", 9, text); code != impl.HostDone && len(text) < 20 || code == impl.HostDone && next.Folders[2].Box.Mail[0].Text != text {
			t.Errorf("HostPut of %q is %q, %d", text, []any{next}, code)
		}
	}
}

func TestP162BytesPut(t *testing.T) {
	eachPut(t, func(h impl.Host, c putCall, next impl.Host, code int) {
		for _, u := range h.Users {
			want := impl.HostUsed(h, u.Name)
			if u.Name == c.owner {
				want += len(c.text)
			}
			if code == impl.HostDone && impl.HostUsed(next, u.Name) != want {
				t.Errorf("after HostPut(%q, %q), %q has %d bytes", []any{h}, []any{c}, u.Name, impl.HostUsed(next, u.Name))
			}
		}
	})
}

func TestP163QuotasExceeded(t *testing.T) {
	eachPut(t, func(h impl.Host, c putCall, next impl.Host, code int) {
		owner, _ := impl.UsersFind(h.Users, c.owner)
		more := impl.HostUsed(h, c.owner)+len(c.text) > owner.Quota
		if code == impl.HostQuota && (!more || !sameHost(next, h)) || more && (code == impl.HostDone || code == impl.HostFull) {
			t.Errorf("HostPut(%q, %q) is %q, %d", []any{h}, []any{c}, []any{next}, code)
		}
	})
}

// Exactly the quota and one byte more, with all texts, in the mailbox itself and beside it.
func TestP163AllQuotas(t *testing.T) {
	for used := range 201 {
		for size := range 21 {
			for _, quota := range []int{used + size - 1, used + size, used + size + 1} {
				if quota < used || quota > 200 {
					continue
				}
				h := hostOf("amy:a1:200 bob:b2:200", impl.Queue{Next: 1}, folderOf("amy/inbox", "", boxOfSize(used)), folderOf("amy/box", "", boxOf(1)), folderOf("bob/inbox", "", boxOfSize(100)))
				h.Users[0].Quota = quota
				want := impl.HostDone
				if used+size > quota {
					want = impl.HostQuota
				}
				if _, code := impl.HostPut(h, "amy", "amy", "box", 0, strings.Repeat("z", size)); code != want {
					t.Errorf("with %d of %d bytes, HostPut of %d bytes has the code %d", used, quota, size, code)
				}
			}
		}
	}
}

// The quota is that of the owner, and not that of the user who puts the message.
func TestP163QuotaOfTheOwner(t *testing.T) {
	h := hostOf("amy:a1:5 bob:b2:0 cleo:c3:200", impl.Queue{Next: 1}, folderOf("amy/inbox", "bob=9 cleo=9", boxOfSize(2)), folderOf("bob/inbox", "amy=9", boxOf(1)), folderOf("cleo/inbox", "bob=9", boxOfSize(180)), folderOf("cleo/box", "anyone=9", boxOfSize(17)))
	for _, c := range []struct {
		by, owner, name string
		size, code      int
	}{
		{"bob", "amy", "inbox", 3, 0}, {"bob", "amy", "inbox", 4, 3}, {"cleo", "amy", "inbox", 4, 3}, {"cleo", "amy", "inbox", 3, 0}, {"amy", "bob", "inbox", 0, 0}, {"amy", "bob", "inbox", 1, 3}, {"bob", "bob", "inbox", 0, 0}, {"bob", "bob", "inbox", 20, 3},
		{"bob", "cleo", "inbox", 3, 0}, {"bob", "cleo", "box", 3, 0}, {"amy", "cleo", "box", 4, 3}, {"cleo", "cleo", "box", 20, 3}, {"cleo", "cleo", "inbox", 0, 0}, {"amy", "cleo", "inbox", 1, 1}, {"amy", "cleo", "inbox", 20, 1},
	} {
		if _, code := putMail(t, h, c.by, c.owner, c.name, 0, strings.Repeat("z", c.size)); code != c.code {
			t.Errorf("HostPut by %q in %q of %q of %d bytes has the code %d", c.by, c.name, c.owner, c.size, code)
		}
	}
}

func TestP164RightToPut(t *testing.T) {
	eachPut(t, func(h impl.Host, c putCall, _ impl.Host, code int) {
		rights := impl.AclRights(grantsOf(h, c.owner, c.name), c.owner, c.by)
		if code != impl.HostInvalid && code != impl.HostNone && (!hasFlag(rights, impl.RightSee) || hasFlag(rights, impl.RightPut) != (code != impl.HostRights)) {
			t.Errorf("HostPut(%q, %q) has the code %d", []any{h}, []any{c}, code)
		}
	})
	for _, h := range rightsHosts() {
		rights := rightsIn(grantsOf(h, "amy", "box1"), "amy", "bob")
		if _, code := putMail(t, h, "bob", "amy", "box1", 0, "x"); code != codeOfRights(rights, impl.RightPut) {
			t.Errorf("with the rights %d, HostPut has the code %d", rights, code)
		}
		if _, code := putMail(t, h, "amy", "amy", "box1", 0, "x"); code != impl.HostDone {
			t.Errorf("HostPut by the owner has the code %d", code)
		}
	}
}

func TestP165PutsThatAreRefused(t *testing.T) {
	eachPut(t, func(h impl.Host, c putCall, next impl.Host, code int) {
		if !isRefused(h, next, code) {
			t.Errorf("HostPut(%q, %q) is %q, %d", []any{h}, []any{c}, []any{next}, code)
		}
	})
}

// All numbers are given, each once, and then none; the messages are removed in between, so that there is room.
func TestP165PutsUntilFull(t *testing.T) {
	h := hostOf("amy:a1:60", impl.Queue{Next: 1})
	for n := range 12 {
		next, code := putMail(t, h, "amy", "amy", "inbox", 0, "x")
		if (code == impl.HostFull) != (n >= 10) || code != impl.HostFull && next.Folders[0].Box.Next != n+2 {
			t.Errorf("the message %d is put with the code %d: %q", n+1, code, []any{next})
		}
		h = next
	}
	h = hostOf("amy:a1:60", impl.Queue{Next: 1})
	for n := range 102 {
		next, code := putMail(t, h, "amy", "amy", "inbox", 8, "x")
		if (code == impl.HostFull) != (n >= 99) {
			t.Errorf("the message %d is put with the code %d", n+1, code)
		}
		box, _ := impl.BoxExpunge(next.Folders[0].Box)
		h = withFolder(next, folderOf("amy/inbox", "", box))
	}
}

func TestP166SubmittedLetters(t *testing.T) {
	eachSubmit(t, func(h impl.Host, x impl.Letter, next impl.Host, code int) {
		if code != impl.HostDone {
			return
		}
		want, ok := impl.QueueAdd(h.Queue, x)
		if !ok || !sameQueue(next.Queue, want) || !sameHost(withQueue(next, h.Queue), h) {
			t.Errorf("HostSubmit(%q, %q) is %q", []any{h}, []any{x}, []any{next})
		}
		for _, name := range append([]string{x.From}, x.To...) {
			if _, ok := impl.UsersFind(h.Users, name); !ok {
				t.Errorf("HostSubmit(%q, %q) is done", []any{h}, []any{x})
			}
		}
	})
}

// Each of the names of a letter is one that is not a user.
func TestP166Strangers(t *testing.T) {
	h := town()
	for _, to := range []string{"amy", "bob dan", "dan cleo amy"} {
		users := append([]string{"cleo"}, strings.Fields(to)...)
		if next, code := submitLetter(t, h, impl.Letter{From: "cleo", To: users[1:], Text: "x"}); code != impl.HostDone || len(next.Queue.Items) != 5 || next.Queue.Next != 43 {
			t.Errorf("HostSubmit to %q is %q, %d", to, []any{next}, code)
		}
		for at := range users {
			for _, name := range []string{"zed", "anyone", "inbox", "am", "amyy", "a1", "0"} {
				other := slices.Clone(users)
				other[at] = name
				if next, code := submitLetter(t, h, impl.Letter{From: other[0], To: other[1:], Text: "x"}); code != impl.HostNone || !sameHost(next, h) {
					t.Errorf("HostSubmit of %q is %q, %d", other, []any{next}, code)
				}
			}
		}
	}
}

func TestP167LettersThatAreRefused(t *testing.T) {
	eachSubmit(t, func(h impl.Host, x impl.Letter, next impl.Host, code int) {
		if !isRefused(h, next, code) {
			t.Errorf("HostSubmit(%q, %q) is %q, %d", []any{h}, []any{x}, []any{next}, code)
		}
	})
	for _, x := range notLetters() {
		for _, h := range []impl.Host{town(), fewHosts()[2], fewHosts()[10], fewHosts()[12]} {
			if next, code := submitLetter(t, h, x); code != impl.HostInvalid || !sameHost(next, impl.Host{}) {
				t.Errorf("HostSubmit(%q, %.300q) is %q, %d", []any{h}, []any{x}, []any{next}, code)
			}
		}
	}
}

func TestP167SubmitsUntilFull(t *testing.T) {
	x := impl.Letter{From: "amy", To: []string{"bob", "amy"}, Text: "x"}
	for _, c := range []struct{ next, count int }{{1, 6}, {42, 6}, {93, 6}, {94, 6}, {95, 5}, {99, 1}, {100, 0}} {
		h := hostOf("amy:a1:60 bob:b2:20", impl.Queue{Next: c.next})
		for n := range 8 {
			next, code := submitLetter(t, h, x)
			if (code == impl.HostDone) != (n < c.count) || code != impl.HostDone && code != impl.HostFull {
				t.Errorf("from Next %d on, the letter %d is submitted with the code %d", c.next, n+1, code)
			}
			h = next
		}
	}
}

func TestP168DeliveredCopies(t *testing.T) {
	eachDeliver(t, func(h impl.Host, c letterCopy, next impl.Host, code int) {
		if code != impl.HostDone {
			return
		}
		_, text, _ := impl.QueueTake(h.Queue, c.id, c.user)
		before, _ := folderNamed(h, c.user, "inbox")
		f, _ := impl.HostFolder(next, c.user, impl.Inbox)
		last := impl.Mail{Uid: before.Box.Next, Text: text}
		if want := append(slices.Clone(before.Box.Mail), last); !slices.Equal(f.Box.Mail, want) || f.Box.Next != before.Box.Next+1 || !slices.Equal(f.Grants, before.Grants) {
			t.Errorf("HostDeliver(%q, %d, %q) has the inbox %q", []any{h}, c.id, c.user, []any{f})
		}
		if !sameHost(withQueue(otherParts(next, c.user, "inbox"), h.Queue), otherParts(h, c.user, "inbox")) {
			t.Errorf("HostDeliver(%q, %d, %q) is %q", []any{h}, c.id, c.user, []any{next})
		}
	})
}

func TestP168NamedDeliveries(t *testing.T) {
	for _, c := range []struct {
		id    int
		user  string
		code  int
		used  int
		texts string
		left  string
	}{
		{3, "bob", 0, 20, "xxxxxxxxxxxxxxxxx|one", "3:cleo 7:amy 20:dan amy bob 41:cleo amy dan"}, {20, "bob", 3, 17, "xxxxxxxxxxxxxxxxx", "3:bob cleo 7:amy 20:dan amy 41:cleo amy dan"}, {7, "bob", 1, 17, "xxxxxxxxxxxxxxxxx", "3:bob cleo 7:amy 20:dan amy bob 41:cleo amy dan"},
		{7, "amy", 0, 24, "first|second|", "3:bob cleo 20:dan amy bob 41:cleo amy dan"}, {20, "amy", 0, 44, "first|second|twenty bytes, twenty", "3:bob cleo 7:amy 20:dan bob 41:cleo amy dan"}, {41, "amy", 0, 24, "first|second|", "3:bob cleo 7:amy 20:dan amy bob 41:cleo dan"},
		{3, "cleo", 4, 33, "ten|ten|ten|ten|ten|ten|ten|ten|ten|ten", "3:bob cleo 7:amy 20:dan amy bob 41:cleo amy dan"}, {41, "cleo", 4, 33, "ten|ten|ten|ten|ten|ten|ten|ten|ten|ten", "3:bob cleo 7:amy 20:dan amy bob 41:cleo amy dan"},
		{20, "dan", 3, 0, "|", "3:bob cleo 7:amy 20:amy bob 41:cleo amy dan"}, {41, "dan", 0, 0, "||", "3:bob cleo 7:amy 20:dan amy bob 41:cleo amy"}, {3, "dan", 1, 0, "|", "3:bob cleo 7:amy 20:dan amy bob 41:cleo amy dan"}, {42, "amy", 1, 24, "first|second", "3:bob cleo 7:amy 20:dan amy bob 41:cleo amy dan"},
	} {
		next, code := impl.HostDeliver(town(), c.id, c.user)
		f, _ := impl.HostFolder(next, c.user, "inbox")
		var texts, left []string
		for _, m := range f.Box.Mail {
			texts = append(texts, m.Text)
		}
		for _, item := range next.Queue.Items {
			left = append(left, strconv.Itoa(item.Id)+":"+strings.Join(item.Left, " "))
		}
		if code != c.code || impl.HostUsed(next, c.user) != c.used || strings.Join(texts, "|") != c.texts || strings.Join(left, " ") != c.left {
			t.Errorf("HostDeliver of %d to %q is %q, %d", c.id, c.user, []any{next}, code)
		}
	}
}

func TestP169TakenOnce(t *testing.T) {
	eachDeliver(t, func(h impl.Host, c letterCopy, next impl.Host, code int) {
		if code != impl.HostDone && code != impl.HostQuota {
			return
		}
		want, _, ok := impl.QueueTake(h.Queue, c.id, c.user)
		if !ok || !sameQueue(next.Queue, want) {
			t.Errorf("HostDeliver(%q, %d, %q) has the queue %q", []any{h}, c.id, c.user, []any{next.Queue})
		}
		if again, twice := deliverCopy(t, next, c.id, c.user); twice != impl.HostNone || !sameHost(again, next) {
			t.Errorf("the second HostDeliver(%q, %d, %q) is %q, %d", []any{h}, c.id, c.user, []any{again}, twice)
		}
	})
}

func TestP170LostCopies(t *testing.T) {
	eachDeliver(t, func(h impl.Host, c letterCopy, next impl.Host, code int) {
		_, text, _ := impl.QueueTake(h.Queue, c.id, c.user)
		u, _ := impl.UsersFind(h.Users, c.user)
		if code == impl.HostQuota && (!sameHost(withQueue(next, h.Queue), h) || impl.HostUsed(h, c.user)+len(text) <= u.Quota) {
			t.Errorf("HostDeliver(%q, %d, %q) is %q", []any{h}, c.id, c.user, []any{next})
		}
	})
}

// Exactly the quota and one byte more, with all texts.
func TestP170AllQuotas(t *testing.T) {
	for used := 0; used <= 200; used += 3 {
		for size := range 21 {
			for _, quota := range []int{used + size - 1, used + size, used + size + 1} {
				if quota < used || quota > 200 {
					continue
				}
				h := hostOf("amy:a1:200 bob:b2:200", impl.Queue{Next: 2, Items: []impl.Item{itemOf(1, "bob", "bob amy", strings.Repeat("z", size))}}, folderOf("amy/box", "", boxOfSize(used)), folderOf("bob/box", "", boxOfSize(180)))
				h.Users[0].Quota = quota
				want := impl.HostDone
				if used+size > quota {
					want = impl.HostQuota
				}
				if next, code := deliverCopy(t, h, 1, "amy"); code != want || len(next.Queue.Items[0].Left) != 1 {
					t.Errorf("with %d of %d bytes, HostDeliver of %d bytes is %q, %d", used, quota, size, []any{next}, code)
				}
			}
		}
	}
}

func TestP171CopiesThatWait(t *testing.T) {
	eachDeliver(t, func(h impl.Host, c letterCopy, next impl.Host, code int) {
		f, _ := folderNamed(h, c.user, "inbox")
		full := len(f.Box.Mail) == impl.MaxMail || f.Box.Next > impl.MaxUid
		if (code == impl.HostFull || code == impl.HostNone) && !sameHost(next, h) || code == impl.HostFull && !full || code == impl.HostDone && full {
			t.Errorf("HostDeliver(%q, %d, %q) is %q, %d", []any{h}, c.id, c.user, []any{next}, code)
		}
	})
}

func TestP172CopiesAndMessages(t *testing.T) {
	count := func(h impl.Host, user string) int {
		f, _ := folderNamed(h, user, "inbox")
		return impl.QueueLeft(h.Queue, user) + len(f.Box.Mail)
	}
	eachDeliver(t, func(h impl.Host, c letterCopy, next impl.Host, code int) {
		for _, u := range h.Users {
			lost := 0
			if u.Name == c.user && code == impl.HostQuota {
				lost = 1
			}
			if count(next, u.Name) != count(h, u.Name)-lost {
				t.Errorf("HostDeliver(%q, %d, %q) is %q, %d", []any{h}, c.id, c.user, []any{next}, code)
			}
		}
	})
}

// chosen returns whether each of some conditions holds in a choice.
func chosen(choice int, count int) []bool {
	var list []bool
	for i := range count {
		list = append(list, hasFlag(choice, 1<<i))
	}
	return list
}

// firstOf returns the code of the first condition that holds, or HostDone.
func firstOf(holds []bool, codes []int) int {
	at := slices.Index(holds, true)
	if at < 0 {
		return impl.HostDone
	}
	return codes[at]
}

// either returns one text or the other.
func either(holds bool, one string, other string) string {
	if holds {
		return one
	}
	return other
}

// rightsWithout returns all rights but those that are missing.
func rightsWithout(seeMissing bool, rightMissing bool, right int) string {
	rights := 63
	if seeMissing {
		rights--
	}
	if rightMissing {
		rights -= right
	}
	return strconv.Itoa(rights)
}

// givenTo are three ways to give rights to bob: by name, by Anyone, and by both.
func givenTo(rights string) []string {
	return []string{"bob=" + rights, "anyone=" + rights, "anyone=" + rights + " bob=" + rights}
}

// expectOrder checks a code and a host of a call that is refused for some reasons.
func expectOrder(t *testing.T, what string, holds []bool, codes []int, h impl.Host, next impl.Host, code int) {
	t.Helper()
	want := firstOf(holds, codes)
	if code != want || !isRefused(h, next, code) || code == impl.HostDone && sameHost(next, h) {
		t.Errorf("%s in the conditions %v is %.900q, %d, not %d", what, holds, []any{next}, code, want)
	}
}

// All choices of the conditions of HostCreate: no name, nobody, a mailbox that is there, and MaxFolders.
func TestOrderOfTheCodesOfCreate(t *testing.T) {
	codes := []int{5, 1, 4, 4}
	for choice := range 1 << len(codes) {
		holds := chosen(choice, len(codes))
		user, name := either(holds[1], "zed", "amy"), either(holds[0], "box-0", "box0")
		list := []impl.Folder{folderOf("amy/other", "", boxOf(1))}
		if holds[2] {
			list = append(list, folderOf("amy/box0", "", boxOf(1)))
		}
		if holds[3] {
			for _, path := range []string{"bob/a", "bob/b", "bob/c", "bob/d", "bob/e"}[:6-len(list)-1] {
				list = append(list, folderOf(path, "", boxOf(1)))
			}
			list = append(list, folderOf("bob/z", "", boxOf(1)))
		}
		h := hostOf("amy:a1:60 bob:b2:20", impl.Queue{Next: 1}, list...)
		if (len(h.Folders) == 8) != holds[3] {
			t.Fatalf("the host has %d mailboxes", len(h.Folders))
		}
		next, code := createFolder(t, h, user, name)
		expectOrder(t, "HostCreate", holds, codes, h, next, code)
	}
}

// All choices of the conditions of HostGrant: invalid rights, given by nobody, no mailbox, not seen, no right, given to
// nobody, and MaxGrants.
func TestOrderOfTheCodesOfGrant(t *testing.T) {
	codes := []int{5, 1, 1, 1, 2, 1, 4}
	for choice := range 1 << len(codes) {
		holds := chosen(choice, len(codes))
		for _, given := range givenTo(rightsWithout(holds[3], holds[4], 32)) {
			for _, user := range []string{"amy", "cleo"} {
				list := strings.ReplaceAll(given, "bob", either(holds[1], "bobby", "bob"))
				for _, other := range []string{" x=1", " y=2", " yy=63"} {
					if holds[6] && len(acl(list)) < 4 {
						list += other
					}
				}
				h := hostOf("amy:a1:60 bob:b2:20 cleo:c3:5", impl.Queue{Next: 1}, folderOf("amy/box1", list, boxOf(2, "one")))
				rights := 9
				if holds[0] {
					rights = 64
				}
				next, code := grantRights(t, h, either(holds[1], "bobby", "bob"), "amy", either(holds[2], "nobox", "box1"), either(holds[5], "eve", user), rights)
				expectOrder(t, "HostGrant", holds, codes, h, next, code)
			}
		}
	}
}

// All choices of the conditions of HostPut: flags that are none, a text that is too long, put by nobody, no mailbox,
// not seen, no right, the quota, MaxMail, and no number left.
func TestOrderOfTheCodesOfPut(t *testing.T) {
	codes := []int{5, 5, 1, 1, 1, 2, 3, 4, 4}
	for choice := range 1 << len(codes) {
		holds := chosen(choice, len(codes))
		for _, given := range givenTo(rightsWithout(holds[4], holds[5], 8)) {
			text, flags, used, next := "xy", 3, 58, 20
			if holds[1] {
				text = strings.Repeat("x", 21)
			}
			if holds[0] {
				flags = -1
			}
			if holds[6] {
				used = 59
			} else if holds[1] {
				used = 39
			}
			if holds[8] {
				next = 100
			}
			texts := make([]string, 9)
			if holds[7] {
				texts = make([]string, 10)
			}
			if holds[2] {
				given = strings.ReplaceAll(given, "bob", "zed")
			}
			h := hostOf("amy:a1:60 bob:b2:20", impl.Queue{Next: 1}, folderOf("amy/box1", given, boxOf(next, texts...)), folderOf("amy/inbox", "", boxOfSize(used)))
			host, code := putMail(t, h, either(holds[2], "zed", "bob"), "amy", either(holds[3], "nobox", "box1"), flags, text)
			expectOrder(t, "HostPut", holds, codes, h, host, code)
		}
	}
}

// All choices of the conditions of HostSubmit: no letter, a sender and a receiver who are nobody, MaxQueue, and no
// number left.
func TestOrderOfTheCodesOfSubmit(t *testing.T) {
	codes := []int{5, 1, 1, 4, 4}
	wrong := []func(x *impl.Letter){
		func(x *impl.Letter) { x.To = append(x.To, "cleo", "dan", "amy") },
		func(x *impl.Letter) { x.To = append(x.To, "amy") },
		func(x *impl.Letter) { x.To[1] = "" },
		func(x *impl.Letter) { x.To = nil },
		func(x *impl.Letter) { x.From = "B" },
		func(x *impl.Letter) { x.Text = strings.Repeat("x", 21) },
	}
	for choice := range 1 << len(codes) {
		holds := chosen(choice, len(codes))
		for _, change := range wrong {
			x := impl.Letter{From: either(holds[1], "zed", "bob"), To: []string{"amy", either(holds[2], "anyone", "bob")}, Text: "x"}
			if holds[0] {
				change(&x)
			}
			count, number := 5, 50
			if holds[3] {
				count = 6
			}
			if holds[4] {
				number = 100
			}
			h := hostOf("amy:a1:60 bob:b2:20 cleo:c3:0 dan:d4:0", manyItems(number, count))
			next, code := submitLetter(t, h, x)
			expectOrder(t, "HostSubmit", holds, codes, h, next, code)
		}
	}
}

// All choices of the conditions of HostDeliver: no item, not left, the quota, MaxMail, and no number left. With the
// quota exceeded, the copy is lost, whether the inbox is full or not.
func TestOrderOfTheCodesOfDeliver(t *testing.T) {
	codes := []int{1, 1, 3, 4, 4}
	for choice := range 1 << len(codes) {
		holds := chosen(choice, len(codes))
		for _, left := range []string{"bob", "bob amy", "cleo bob amy"} {
			used, number, id := 18, 20, 7
			if holds[2] {
				used = 19
			}
			if holds[4] {
				number = 100
			}
			if holds[0] {
				id = 8
			}
			texts := make([]string, 9)
			if holds[3] {
				texts = make([]string, 10)
			}
			receivers := strings.ReplaceAll(left, "bob", either(holds[1], "dan", "bob"))
			q := impl.Queue{Next: 9, Items: []impl.Item{itemOf(3, "amy", "bob", "other"), itemOf(7, "amy", receivers, "xy")}}
			h := hostOf("amy:a1:60 bob:b2:20 cleo:c3:0 dan:d4:0", q, folderOf("bob/inbox", "", boxOf(number, texts...)), folderOf("bob/box1", "", boxOfSize(used)))
			next, code := deliverCopy(t, h, id, "bob")
			if want := firstOf(holds, codes); want != impl.HostQuota {
				expectOrder(t, "HostDeliver", holds, codes, h, next, code)
			} else if lost, _, _ := withoutCopy(h.Queue, 7, "bob"); code != want || !sameHost(next, withQueue(h, lost)) || impl.QueueLeft(next.Queue, "bob") != 1 {
				t.Errorf("HostDeliver in the conditions %v is %.900q, %d", holds, []any{next}, code)
			}
		}
	}
}

// textsIn returns the texts of a mailbox, with bars between them.
func textsIn(h impl.Host, owner string, name string) string {
	f, _ := impl.HostFolder(h, owner, name)
	var texts []string
	for _, m := range f.Box.Mail {
		texts = append(texts, m.Text)
	}
	return strings.Join(texts, "|")
}

// Letters are submitted and delivered, in another order; each copy is delivered once, or waits, or is lost.
func TestWholeRunOfLetters(t *testing.T) {
	h, _ := impl.HostNew("host.org", usersOf("amy:a1:60 bob:b2:20 cleo:c3:9"))
	expectCode := func(want int, code int) {
		t.Helper()
		if code != want || !impl.HostValid(h) {
			t.Errorf("the code is %d, not %d, for %q", code, want, []any{h})
		}
	}
	submit := func(want int, from string, to string, text string) {
		t.Helper()
		next, code := submitLetter(t, h, impl.Letter{From: from, To: strings.Fields(to), Text: text})
		h = next
		expectCode(want, code)
	}
	deliver := func(want int, id int, user string) {
		t.Helper()
		next, code := deliverCopy(t, h, id, user)
		h = next
		expectCode(want, code)
	}
	submit(0, "amy", "bob cleo", "twelve bytes")
	submit(0, "bob", "amy bob cleo", "hi")
	submit(0, "cleo", "bob", "twelve bytes")
	submit(1, "cleo", "bob zed", "to nobody")
	submit(0, "bob", "cleo", "1234567")
	deliver(0, 2, "bob")
	deliver(0, 3, "bob")
	deliver(3, 1, "bob")
	deliver(1, 1, "bob")
	deliver(0, 2, "cleo")
	deliver(3, 1, "cleo")
	deliver(1, 1, "cleo")
	deliver(0, 4, "cleo")
	submit(0, "amy", "cleo amy", "")
	submit(0, "amy", "cleo", "x")
	deliver(0, 5, "cleo")
	deliver(3, 6, "cleo")
	deliver(0, 5, "amy")
	deliver(1, 5, "amy")
	if textsIn(h, "amy", "inbox") != "" || textsIn(h, "bob", "inbox") != "hi|twelve bytes" || textsIn(h, "cleo", "inbox") != "hi|1234567|" {
		t.Errorf("the run leads to %q", []any{h})
	}
	if want := (impl.Queue{Next: 7, Items: []impl.Item{itemOf(2, "bob", "amy", "hi")}}); !sameQueue(h.Queue, want) {
		t.Errorf("what waits is %q", []any{h.Queue})
	}
	deliver(0, 2, "amy")
	if impl.HostUsed(h, "amy") != 2 || impl.HostUsed(h, "bob") != 14 || impl.HostUsed(h, "cleo") != 9 || textsIn(h, "amy", "inbox") != "|hi" {
		t.Errorf("the run leads to %q", []any{h})
	}
}

// A full inbox keeps copies waiting, until there is room again.
func TestCopiesWaitForRoom(t *testing.T) {
	h := hostOf("amy:a1:60 bob:b2:20", impl.Queue{Next: 1}, folderOf("bob/inbox", "", boxOf(11, make([]string, 10)...)))
	h, _ = submitLetter(t, h, impl.Letter{From: "amy", To: []string{"bob"}, Text: "wait"})
	for range 3 {
		next, code := deliverCopy(t, h, 1, "bob")
		if code != impl.HostFull || !sameHost(next, h) {
			t.Errorf("HostDeliver is %q, %d", []any{next}, code)
		}
	}
	f, _ := impl.HostFolder(h, "bob", "inbox")
	f.Box.Mail = f.Box.Mail[1:]
	next, code := deliverCopy(t, withFolder(h, f), 1, "bob")
	if code != impl.HostDone || textsIn(next, "bob", "inbox") != "|||||||||wait" || len(next.Queue.Items) != 0 {
		t.Errorf("HostDeliver is %q, %d", []any{next}, code)
	}
}

// Rights that a user is given, passes on, and loses.
func TestWholeRunOfRights(t *testing.T) {
	h := hostOf("amy:a1:60 bob:b2:20 cleo:c3:9", impl.Queue{Next: 1})
	grant := func(want int, by string, user string, rights int) {
		t.Helper()
		next, code := grantRights(t, h, by, "amy", "inbox", user, rights)
		if h = next; code != want {
			t.Errorf("HostGrant by %q to %q of %d has the code %d", by, user, rights, code)
		}
	}
	put := func(want int, by string) {
		t.Helper()
		next, code := putMail(t, h, by, "amy", "inbox", 0, by)
		if h = next; code != want {
			t.Errorf("HostPut by %q has the code %d", by, code)
		}
	}
	put(1, "bob")
	grant(1, "bob", "bob", 63)
	grant(0, "amy", "bob", 8)
	put(1, "bob")
	grant(0, "amy", "anyone", 1)
	put(0, "bob")
	put(2, "cleo")
	grant(2, "bob", "cleo", 9)
	grant(0, "amy", "bob", 32)
	put(2, "bob")
	grant(0, "bob", "cleo", 8)
	put(0, "cleo")
	grant(0, "bob", "anyone", 0)
	put(1, "cleo")
	grant(1, "bob", "anyone", 1)
	grant(0, "amy", "anyone", 63)
	grant(0, "cleo", "amy", 1)
	put(0, "amy")
	grant(0, "cleo", "anyone", 0)
	grant(1, "cleo", "anyone", 1)
	put(0, "amy")
	if textsIn(h, "amy", "inbox") != "bob|cleo|amy|amy" || !slices.Equal(grantsOf(h, "amy", "inbox"), acl("amy=1 bob=32 cleo=8")) {
		t.Errorf("the run leads to %q", []any{h})
	}
}

// stepHost does one of all operations, by numbers that random returns, and returns the host, the code and how many
// copies were added and taken.
func stepHost(t *testing.T, h impl.Host, random func(n int) int) (impl.Host, int, int) {
	t.Helper()
	users := append(hostNames(h)[3:], hostNames(h)[:1+random(3)]...)
	one, two := users[random(len(users))], users[random(len(users))]
	path := hostPaths(h)[random(len(h.Folders)+4)]
	text := strings.Repeat("t", random(23)*random(2))
	switch random(8) {
	case 0:
		next, code := createFolder(t, h, one, []string{"a", "inbox", "zoo", "Box"}[random(4)])
		return next, code, 0
	case 1:
		next, code := grantRights(t, h, one, path[0], path[1], two, random(66))
		return next, code, 0
	case 2, 3:
		next, code := putMail(t, h, one, path[0], path[1], random(33), text)
		return next, code, 0
	case 4, 5:
		to := []string{one, h.Users[0].Name, two}[:1+random(3)]
		next, code := submitLetter(t, h, impl.Letter{From: h.Users[random(len(h.Users))].Name, To: to, Text: text})
		return next, code, len(copiesOf(next.Queue)) - len(copiesOf(h.Queue))
	}
	list := append(copiesOf(h.Queue), letterCopy{id: random(100), user: one})
	c := list[random(len(list))]
	next, code := deliverCopy(t, h, c.id, c.user)
	return next, code, len(copiesOf(next.Queue)) - len(copiesOf(h.Queue))
}

// Long runs of all operations, in which nobody exceeds the quota, no number is given again, and each copy that was
// added is taken once or waits.
func TestLongRunsOfHosts(t *testing.T) {
	state := 1
	random := func(n int) int {
		state = (state*75 + 74) % 65537
		return state / 3 % n
	}
	seen := map[int]int{}
	for _, first := range append(fewHosts(), hostsOfUsers()...) {
		h := first
		added, taken := len(copiesOf(h.Queue)), 0
		for range 400 {
			next, code, more := stepHost(t, h, random)
			seen[code]++
			if code == impl.HostInvalid {
				continue
			}
			added, taken = added+max(more, 0), taken+max(-more, 0)
			for _, u := range next.Users {
				if used := impl.HostUsed(next, u.Name); used < 0 || used > u.Quota {
					t.Errorf("after %q, %q has %d bytes", []any{h}, u.Name, used)
				}
			}
			for _, f := range h.Folders {
				if after, ok := folderNamed(next, f.Owner, f.Name); !ok || after.Box.Next < f.Box.Next || len(after.Box.Mail) < len(f.Box.Mail) {
					t.Errorf("after %q, the mailbox %q is %q", []any{h}, pathOf(f), []any{after})
				}
			}
			h = next
		}
		if added-taken != len(copiesOf(h.Queue)) || !slices.Equal(h.Users, first.Users) || h.Domain != first.Domain {
			t.Errorf("of %d copies, %d were taken, and %d wait in %q", added, taken, len(copiesOf(h.Queue)), []any{h})
		}
	}
	expectCodes(t, seen, 0, 1, 2, 3, 4, 5)
}

// hostArguments are what the functions of hosts take.
type hostArguments struct {
	h    impl.Host
	x    impl.Letter
	id   int
	user string
}

// onlyHost returns the host of a result.
func onlyHost(h impl.Host, _ int) impl.Host {
	return h
}

// hostCalls has a call of each function for each kind of its results; a mailbox is returned in a host.
var hostCalls = map[string]func(a hostArguments) impl.Host{
	"HostNew": func(a hostArguments) impl.Host {
		h, _ := impl.HostNew(a.h.Domain, a.h.Users)
		return h
	},
	"HostFolder": func(a hostArguments) impl.Host {
		var h impl.Host
		for _, f := range a.h.Folders[:min(8, len(a.h.Folders))] {
			for range 2 {
				found, _ := impl.HostFolder(a.h, f.Owner, f.Name)
				h.Folders = append(h.Folders, found)
			}
		}
		return h
	},
	"HostCreate ahead of others": func(a hostArguments) impl.Host { return onlyHost(impl.HostCreate(a.h, a.user, "0")) },
	"HostCreate behind others":   func(a hostArguments) impl.Host { return onlyHost(impl.HostCreate(a.h, a.user, "zzzzzzzz")) },
	"HostCreate of an inbox":     func(a hostArguments) impl.Host { return onlyHost(impl.HostCreate(a.h, a.user, "inbox")) },
	"HostCreate of no name":      func(a hostArguments) impl.Host { return onlyHost(impl.HostCreate(a.h, a.user, "")) },
	"HostGrant": func(a hostArguments) impl.Host {
		return onlyHost(impl.HostGrant(a.h, a.user, a.user, "inbox", "anyone", 9))
	},
	"HostGrant of nothing": func(a hostArguments) impl.Host {
		return onlyHost(impl.HostGrant(a.h, a.user, a.user, "inbox", a.user, 0))
	},
	"HostGrant to nobody": func(a hostArguments) impl.Host {
		return onlyHost(impl.HostGrant(a.h, a.user, a.user, "inbox", "zed", 9))
	},
	"HostGrant in an unseen one": func(a hostArguments) impl.Host {
		return onlyHost(impl.HostGrant(a.h, a.user, "cleo", "archive", a.user, 9))
	},
	"HostPut": func(a hostArguments) impl.Host { return onlyHost(impl.HostPut(a.h, a.user, a.user, "inbox", 3, "")) },
	"HostPut of too many bytes": func(a hostArguments) impl.Host {
		return onlyHost(impl.HostPut(a.h, a.user, a.user, "inbox", 3, strings.Repeat("x", 20)))
	},
	"HostPut for another": func(a hostArguments) impl.Host { return onlyHost(impl.HostPut(a.h, a.user, "amy", "box1", 3, "x")) },
	"HostPut of no flags": func(a hostArguments) impl.Host { return onlyHost(impl.HostPut(a.h, a.user, a.user, "inbox", -3, "x")) },
	"HostSubmit":          func(a hostArguments) impl.Host { return onlyHost(impl.HostSubmit(a.h, a.x)) },
	"HostSubmit to a stranger": func(a hostArguments) impl.Host {
		return onlyHost(impl.HostSubmit(a.h, impl.Letter{From: "zed", To: a.x.To}))
	},
	"HostSubmit of no letter": func(a hostArguments) impl.Host { return onlyHost(impl.HostSubmit(a.h, impl.Letter{To: a.x.To})) },
	"HostDeliver":             func(a hostArguments) impl.Host { return onlyHost(impl.HostDeliver(a.h, a.id, a.user)) },
	"HostDeliver of no item":  func(a hostArguments) impl.Host { return onlyHost(impl.HostDeliver(a.h, 0, a.user)) },
	"HostValid and HostUsed": func(a hostArguments) impl.Host {
		if !impl.HostValid(a.h) {
			return impl.Host{}
		}
		return impl.Host{Queue: impl.Queue{Next: impl.HostUsed(a.h, a.user)}}
	},
}

// wholeHost returns a copy of a host with all that lies within the capacity of its nested lists.
func wholeHost(h impl.Host) impl.Host {
	h.Users, h.Folders, h.Queue.Items = slices.Clone(whole(h.Users)), slices.Clone(whole(h.Folders)), slices.Clone(whole(h.Queue.Items))
	for i, f := range h.Folders {
		h.Folders[i].Grants, h.Folders[i].Box.Mail = slices.Clone(whole(f.Grants)), slices.Clone(whole(f.Box.Mail))
	}
	for i, item := range h.Queue.Items {
		h.Queue.Items[i].Left = slices.Clone(whole(item.Left))
	}
	return h
}

// roomyHost returns a copy with room behind all lists, in which others lie.
func roomyHost(h impl.Host) impl.Host {
	h.Users, h.Queue = roomy(h.Users, impl.User{Name: "other", Pass: "other", Quota: 7}), roomyQueue(h.Queue)
	h.Folders = roomy(h.Folders, folderOf("other/other", "other=7", boxOf(2, "other")))
	for i, f := range h.Folders {
		h.Folders[i].Grants, h.Folders[i].Box.Mail = roomy(f.Grants, impl.Grant{User: "other", Rights: 7}), roomy(f.Box.Mail, impl.Mail{Uid: 77, Flags: 7, Text: "other"})
	}
	return h
}

// overwriteHost changes all that lies within the capacity of the nested lists of a host.
func overwriteHost(h impl.Host) {
	for i, f := range whole(h.Folders) {
		overwriteGrants(f.Grants)
		boxResults{box: f.Box}.overwrite()
		whole(h.Folders)[i] = impl.Folder{Owner: "overwritten", Name: "overwritten"}
	}
	overwriteUsers(h.Users)
	overwriteQueue(h.Queue)
}

// hostArgumentLists have each user of a few hosts, and a copy for each; and others who are no users, or invalid hosts.
func hostArgumentLists() []hostArguments {
	var list []hostArguments
	for i, h := range slices.Concat(fewHosts(), hostsOfBoxes()[:5], fewNotHosts()) {
		users := hostNames(h)[2:]
		if !isHost(h) {
			users = []string{"amy"}
		}
		for j, user := range users {
			a := hostArguments{h: h, user: user, id: i + j, x: impl.Letter{From: user, To: []string{user, "amy"}, Text: "x"}}
			for _, c := range copiesOf(h.Queue) {
				if c.user == user {
					a.id = c.id
				}
			}
			if user == "amy" {
				a.x.To = []string{"amy", "bob"}
			}
			list = append(list, a)
		}
	}
	return list
}

func TestHostsKeepTheirMemory(t *testing.T) {
	list := hostArgumentLists()
	for name, call := range hostCalls {
		for _, plain := range list {
			a := plain
			a.h, a.x.To = roomyHost(plain.h), roomy(plain.x.To, "other")
			before, beforeTo := wholeHost(a.h), slices.Clone(whole(a.x.To))
			isKept := func() bool { return sameHost(wholeHost(a.h), before) && slices.Equal(whole(a.x.To), beforeTo) }
			first, second := call(a), call(a)
			want := hostClone(second)
			if !sameHost(first, second) || !isKept() {
				t.Errorf("%s changed its arguments %.900q", name, []any{plain.h, plain.x})
			}
			overwriteHost(first)
			if !sameHost(second, want) || !isKept() {
				t.Errorf("a result of %s shares memory with the arguments %.900q or with another result", name, []any{plain.h, plain.x})
			}
			overwriteHost(a.h)
			overwriteTexts(a.x.To)
			if !sameHost(second, want) {
				t.Errorf("a result of %s changes with the arguments %.900q", name, []any{plain.h, plain.x})
			}
		}
	}
}

// sharedHost returns a host whose mailboxes share their grants and messages, and whose items share their receivers.
func sharedHost() impl.Host {
	grants, mail, left := roomy(acl("amy=9 bob=9"), impl.Grant{}), roomy(boxOf(3, "one", "two").Mail, impl.Mail{}), roomy([]string{"bob", "amy"}, "")
	h := hostOf("amy:a1:60 bob:b2:60", impl.Queue{Next: 7}, folderOf("amy/box1", "", boxOf(1)), folderOf("bob/box2", "", boxOf(1)))
	for i := range h.Folders {
		h.Folders[i].Grants, h.Folders[i].Box = grants, impl.Box{Next: 5, Mail: mail}
	}
	for id := range 4 {
		h.Queue.Items = append(h.Queue.Items, impl.Item{Id: id + 1, From: "amy", Left: left})
	}
	return h
}

// haveSharedParts overwrites each nested list of a host, up to its capacity, in another way, and reports whether others
// have changed then.
func haveSharedParts(h impl.Host) bool {
	for i, f := range h.Folders {
		for at := range whole(f.Grants) {
			whole(f.Grants)[at].Rights = 1000 + i
		}
		for at := range whole(f.Box.Mail) {
			whole(f.Box.Mail)[at].Uid = 1000 + i
		}
	}
	for i, item := range h.Queue.Items {
		for at := range whole(item.Left) {
			whole(item.Left)[at] = strconv.Itoa(i)
		}
	}
	shared := false
	for i, f := range h.Folders {
		shared = shared || slices.ContainsFunc(whole(f.Grants), func(g impl.Grant) bool { return g.Rights != 1000+i }) || slices.ContainsFunc(whole(f.Box.Mail), func(m impl.Mail) bool { return m.Uid != 1000+i })
	}
	for i, item := range h.Queue.Items {
		shared = shared || slices.ContainsFunc(whole(item.Left), func(name string) bool { return name != strconv.Itoa(i) })
	}
	return shared
}

func TestPartsOfAHostShareNoMemory(t *testing.T) {
	list := hostArgumentLists()
	for _, user := range []string{"amy", "bob"} {
		list = append(list, hostArguments{h: sharedHost(), user: user, id: 2, x: impl.Letter{From: user, To: []string{"amy", "bob"}}})
	}
	for name, call := range hostCalls {
		for _, a := range list {
			if haveSharedParts(call(a)) {
				t.Errorf("the parts of a result of %s for %.900q share memory", name, []any{a.h})
			}
		}
	}
}

// emptied returns a host in which all empty lists are of one kind: nil, empty, with room, or parts of others.
func emptied(h impl.Host, kind int) impl.Host {
	h = hostClone(h)
	h.Users, h.Folders, h.Queue.Items = emptyOf(h.Users, kind), emptyOf(h.Folders, kind), emptyOf(h.Queue.Items, kind)
	for i, f := range h.Folders {
		h.Folders[i].Grants, h.Folders[i].Box.Mail = emptyOf(f.Grants, kind), emptyOf(f.Box.Mail, kind)
	}
	for i, item := range h.Queue.Items {
		h.Queue.Items[i].Left = emptyOf(item.Left, kind)
	}
	return h
}

func emptyOf[T any](list []T, kind int) []T {
	if len(list) > 0 {
		return list
	}
	return [][]T{nil, {}, make([]T, 0, 5), make([]T, 5)[:0]}[kind]
}

func TestHostsOfNilAndEmptySlices(t *testing.T) {
	list := hostArgumentLists()
	for _, h := range []impl.Host{{}, {Domain: "org"}, {Domain: "org", Queue: impl.Queue{Next: 1}}, {Domain: "org", Users: usersOf("amy:a1:60"), Queue: impl.Queue{Next: 1}}, withQueue(town(), impl.Queue{Next: 9, Items: []impl.Item{{Id: 1, From: "amy"}}})} {
		list = append(list, hostArguments{h: h, user: "amy", id: 1, x: impl.Letter{From: "amy"}})
	}
	for name, call := range hostCalls {
		for _, a := range list {
			x := a
			x.h, x.x.To = emptied(a.h, 0), emptyOf(a.x.To, 0)
			want := call(x)
			for kind := 1; kind < 4; kind++ {
				x.h, x.x.To = emptied(a.h, kind), emptyOf(a.x.To, kind)
				if next := call(x); !sameHost(next, want) {
					t.Errorf("%s of %.900q is not the same with empty lists: %.900q", name, []any{a.h}, []any{next})
				}
			}
		}
	}
}

// The bubble of synctest ends only if no goroutine that was begun in it is left over.
func TestGoroutinesOfHostsAreJoined(t *testing.T) {
	list := hostArgumentLists()
	synctest.Test(t, func(t *testing.T) {
		for _, call := range hostCalls {
			for _, a := range list {
				call(a)
			}
		}
	})
	before := runtime.NumGoroutine()
	for range 2000 {
		impl.HostValid(town())
	}
	expectGoroutines(t, before)
}

// Calls at the same time have the same results; the race detector shows whether they write what they are given.
func TestHostsAtTheSameTime(t *testing.T) {
	var all sync.WaitGroup
	for _, h := range []impl.Host{town(), sharedHost(), fewNotHosts()[3]} {
		for name, call := range hostCalls {
			a := hostArguments{h: h, user: "bob", id: 3, x: impl.Letter{From: "amy", To: []string{"bob", "amy"}}}
			want := call(a)
			for range 4 {
				all.Go(func() {
					if next := call(a); !sameHost(next, want) {
						t.Errorf("%s at the same time as others is %.900q", name, []any{next})
					}
				})
			}
		}
	}
	all.Wait()
}

// Hosts may be changed as soon as a function has returned: no goroutine reads them any more.
func TestHostsAreReadNoMore(t *testing.T) {
	for range 200 {
		h := hostClone(town())
		impl.HostValid(h)
		overwriteHost(h)
		expectNoHost(t, h)
	}
}
