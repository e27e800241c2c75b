package tests

import (
	"cmp"
	"runtime"
	"slices"
	"strconv"
	"strings"
	"sync"
	"testing"
	"testing/synctest"

	"loop.example/mailhost/impl"
)

// A second definition of sessions, against which the program is held: as for hosts, all conditions of a function are
// asked for ahead of the one that decides.

// workOf returns the conditions under which a session may not work in its selected mailbox with a right.
func workOf(h impl.Host, s impl.Session, right int) []condition {
	return append(checkOf(h, s.User, s.Owner, s.Name, 2), checkOf(h, s.User, s.Owner, s.Name, right)...)
}

// boxIn returns the selected mailbox of a session, and the places that a set has in it.
func boxIn(h impl.Host, s impl.Session, set []impl.Span) (impl.Box, []int) {
	f, _ := folderNamed(h, s.Owner, s.Name)
	return f.Box, numbersOf(set, len(f.Box.Mail))
}

// withBox returns a host in which a mailbox has another Box.
func withBox(h impl.Host, owner string, name string, b impl.Box) impl.Host {
	f, ok := folderNamed(h, owner, name)
	if !ok {
		return h
	}
	f.Box = b
	return withFolder(h, f)
}

// openedBy is a second definition of SessionOpen.
func openedBy(h impl.Host, name string, pass string) (impl.Session, bool) {
	if !isHost(h) || !hasProof(h.Users, name, pass) {
		return impl.Session{}, false
	}
	return impl.Session{User: name, Owner: name, Name: "inbox"}, true
}

// listedFor is a second definition of SessionList.
func listedFor(h impl.Host, s impl.Session) []impl.Folder {
	var list []impl.Folder
	for _, f := range h.Folders {
		if isHost(h) && isCalled(h.Users, s.User) && hasFlag(rightsIn(f.Grants, f.Owner, s.User), 1) {
			list = append(list, impl.Folder{Owner: f.Owner, Name: f.Name})
		}
	}
	return list
}

// selectedBy is a second definition of SessionSelect.
func selectedBy(h impl.Host, s impl.Session, owner string, name string) (impl.Session, int) {
	code := firstCode(append([]condition{{!isHost(h), 5}}, checkOf(h, s.User, owner, name, 2)...)...)
	return [6]impl.Session{{User: s.User, Owner: owner, Name: name}, s, s}[code], code
}

// fetchedBy is a second definition of SessionFetch.
func fetchedBy(h impl.Host, s impl.Session, set []impl.Span) ([]impl.Line, int) {
	code := firstCode(append([]condition{{!isHost(h) || !isSet(set), 5}}, workOf(h, s, 2)...)...)
	b, places := boxIn(h, s, set)
	var lines []impl.Line
	for i, m := range b.Mail {
		if code == 0 && slices.Contains(places, i+1) {
			lines = append(lines, impl.Line{Place: i + 1, Uid: m.Uid, Flags: m.Flags, Text: m.Text})
		}
	}
	return lines, code
}

// withStored is a second definition of SessionStore.
func withStored(h impl.Host, s impl.Session, set []impl.Span, how int, flags int) (impl.Host, int) {
	valid := isHost(h) && isSet(set) && changed(0, how, flags) != -1
	code := firstCode(append([]condition{{!valid, 5}}, workOf(h, s, 4)...)...)
	b, places := boxIn(h, s, set)
	b, _ = flagged(b, places, how, flags)
	return outcome(h, withBox(h, s.Owner, s.Name, b), code)
}

// withExpunged is a second definition of SessionExpunge.
func withExpunged(h impl.Host, s impl.Session) (impl.Host, []int, int) {
	code := firstCode(append([]condition{{!isHost(h), 5}}, workOf(h, s, 16)...)...)
	b, _ := boxIn(h, s, nil)
	b, places := expunged(b)
	next, code := outcome(h, withBox(h, s.Owner, s.Name, b), code)
	if code != 0 {
		places = nil
	}
	return next, places, code
}

// searchedBy is a second definition of SessionSearch.
func searchedBy(h impl.Host, s impl.Session, k impl.Key) ([]int, int) {
	code := firstCode(append([]condition{{!isHost(h) || !isKey(k), 5}}, workOf(h, s, 2)...)...)
	if code != 0 {
		return nil, code
	}
	b, _ := boxIn(h, s, nil)
	return found(b, k), code
}

// withCopied is a second definition of SessionCopy: of each message, it asks for the quota and for space, message by
// message, and it copies all of them at once.
func withCopied(h impl.Host, s impl.Session, set []impl.Span, owner string, name string) (impl.Host, int) {
	conditions := slices.Concat([]condition{{!isHost(h) || !isSet(set), 5}}, workOf(h, s, 2), checkOf(h, s.User, owner, name, 8))
	b, places := boxIn(h, s, set)
	to, _ := folderNamed(h, owner, name)
	bytes := usedBy(h, owner)
	for i, place := range places {
		bytes += len(b.Mail[place-1].Text)
		conditions = append(conditions, condition{bytes > quotaOf(h, owner), 3}, condition{len(to.Box.Mail)+i == 10, 4}, condition{to.Box.Next+i == 100, 4})
	}
	box, _ := copied(b, places, to.Box)
	return outcome(h, withBox(h, owner, name, box), firstCode(conditions...))
}

// sessionOf returns a session of a user with the mailbox of a path such as "amy/box1".
func sessionOf(user string, path string) impl.Session {
	owner, name, _ := strings.Cut(path, "/")
	return impl.Session{User: user, Owner: owner, Name: name}
}

// sessionsOf returns sessions of all users and of others, in all mailboxes and in some that are not there.
func sessionsOf(h impl.Host) []impl.Session {
	list := []impl.Session{{}, {User: h.Users[0].Name}, {Owner: h.Users[0].Name, Name: "inbox"}}
	for _, user := range hostNames(h) {
		for _, path := range hostPaths(h) {
			list = append(list, impl.Session{User: user, Owner: path[0], Name: path[1]})
		}
	}
	return list
}

// readHosts have further mailboxes with messages of all kinds, in which bob has other rights each, by name or by Anyone;
// cleo has the others.
func readHosts() []impl.Host {
	var list []impl.Host
	for i, b := range append(searchBoxes(), deletedBoxes(3)...) {
		bob, cleo := strconv.Itoa(1+(7*i+2)%63), strconv.Itoa(1+(5*i+30)%63)
		f := folderOf("amy/box1", []string{"bob=" + bob, "anyone=" + bob, "anyone=" + cleo + " bob=" + bob, "anyone=1 bob=63 cleo=" + cleo}[i%4], b)
		list = append(list, hostOf("amy:a1:200 bob:b2:200 cleo:c3:20", manyItems(7, 2), f, folderOf("bob/inbox", "amy=11 cleo=41", boxOf(5, "one", "", "bob to"))))
	}
	return list
}

// eachSession calls check with all sessions in a few hosts, and with some in many others; n counts the calls.
func eachSession(check func(h impl.Host, s impl.Session, n int)) {
	n := 0
	for _, h := range slices.Concat(fewHosts(), hostsOfBoxes()[:6], readHosts()[:8]) {
		for _, s := range sessionsOf(h) {
			check(h, s, n)
			n++
		}
	}
	for _, h := range slices.Concat(rightsHosts(), hostsOfBoxes(), readHosts()) {
		for _, s := range []impl.Session{sessionOf("bob", "amy/box1"), sessionOf("amy", "amy/inbox"), sessionOf("cleo", "amy/box1"), sessionOf("amy", "amy/box1"), sessionOf("amy", "bob/box")} {
			check(h, s, n)
			n++
		}
	}
}

// fewSets are valid: of one span and of several, backwards ones, with stars, and past the end of most mailboxes.
func fewSets() [][]impl.Span {
	var list [][]impl.Span
	for _, text := range []string{"1:*", "1", "*", "2:3", "3:2", "*:2", "99:1", "4,2,2:1", "3,1", "1,*,5,9,2:3,8", "50:99", "7:*", "9:8", "99", "10:1", "*:*", "2,2,2"} {
		list = append(list, setOf(text))
	}
	return list
}

// fewNotSets have one fault each.
func fewNotSets() [][]impl.Span {
	return [][]impl.Span{nil, {}, make([]impl.Span, 7), setOf("1,2,3,4,5,6,7"), {{Low: -1, High: 1}}, {{Low: 1, High: 100}}, {{Low: 1, High: 1}, {Low: 100, High: 0}}, {{Low: 0, High: 0}, {Low: 2, High: -1}}}
}

// setFor returns one of the valid sets, and an invalid one at times.
func setFor(n int) []impl.Span {
	if n%13 == 12 {
		return fewNotSets()[n/13%len(fewNotSets())]
	}
	return fewSets()[n%13%11+n/13%7]
}

// expectList checks a list and a code that a call returned.
func expectList[T comparable](t *testing.T, got []T, code int, want []T, wanted int, call ...any) {
	t.Helper()
	if code != wanted || !slices.Equal(got, want) {
		t.Errorf("%.900q is %.900q, %d, not %.900q, %d", call, []any{got}, code, []any{want}, wanted)
	}
}

// openSession returns SessionOpen of any arguments, and checks it first; so do the next functions for others.
func openSession(t *testing.T, h impl.Host, name string, pass string) (impl.Session, bool) {
	t.Helper()
	s, ok := impl.SessionOpen(h, name, pass)
	if want, wanted := openedBy(h, name, pass); s != want || ok != wanted {
		t.Errorf("SessionOpen(%.900q, %q, %q) is %q, %v", []any{h}, name, pass, []any{s}, ok)
	}
	return s, ok
}

func listFolders(t *testing.T, h impl.Host, s impl.Session) []impl.Folder {
	t.Helper()
	list := impl.SessionList(h, s)
	if want := listedFor(h, s); !sameFolders(list, want) {
		t.Errorf("SessionList(%.900q, %q) is %q", []any{h}, []any{s}, []any{list})
	}
	return list
}

func selectFolder(t *testing.T, h impl.Host, s impl.Session, owner string, name string) (impl.Session, int) {
	t.Helper()
	next, code := impl.SessionSelect(h, s, owner, name)
	if want, wanted := selectedBy(h, s, owner, name); next != want || code != wanted {
		t.Errorf("SessionSelect(%.900q, %q, %q, %q) is %q, %d", []any{h}, []any{s}, owner, name, []any{next}, code)
	}
	return next, code
}

func fetchLines(t *testing.T, h impl.Host, s impl.Session, set []impl.Span) ([]impl.Line, int) {
	t.Helper()
	lines, code := impl.SessionFetch(h, s, set)
	want, wanted := fetchedBy(h, s, set)
	expectList(t, lines, code, want, wanted, "SessionFetch", s, set, h)
	return lines, code
}

func storeFlags(t *testing.T, h impl.Host, s impl.Session, set []impl.Span, how int, flags int) (impl.Host, int) {
	t.Helper()
	next, code := impl.SessionStore(h, s, set, how, flags)
	want, wanted := withStored(h, s, set, how, flags)
	expectHost(t, next, code, want, wanted, "SessionStore", s, set, how, flags, h)
	return next, code
}

func expungeMail(t *testing.T, h impl.Host, s impl.Session) (impl.Host, []int, int) {
	t.Helper()
	next, places, code := impl.SessionExpunge(h, s)
	want, gone, wanted := withExpunged(h, s)
	expectHost(t, next, code, want, wanted, "SessionExpunge", s, h)
	expectList(t, places, code, gone, wanted, "SessionExpunge", s, h)
	return next, places, code
}

func searchMail(t *testing.T, h impl.Host, s impl.Session, k impl.Key) ([]int, int) {
	t.Helper()
	places, code := impl.SessionSearch(h, s, k)
	want, wanted := searchedBy(h, s, k)
	expectList(t, places, code, want, wanted, "SessionSearch", s, k, h)
	return places, code
}

func copyMail(t *testing.T, h impl.Host, s impl.Session, set []impl.Span, owner string, name string) (impl.Host, int) {
	t.Helper()
	next, code := impl.SessionCopy(h, s, set, owner, name)
	want, wanted := withCopied(h, s, set, owner, name)
	expectHost(t, next, code, want, wanted, "SessionCopy", s, set, owner, name, h)
	return next, code
}

// eachFetch calls check with sessions and some sets, and with what SessionFetch returns; so do the next functions for
// others.
func eachFetch(t *testing.T, check func(h impl.Host, s impl.Session, set []impl.Span, lines []impl.Line, code int)) {
	t.Helper()
	seen := map[int]int{}
	eachSession(func(h impl.Host, s impl.Session, n int) {
		for _, set := range [][]impl.Span{setFor(n), setFor(n + 5), setFor(3*n + 1)} {
			lines, code := fetchLines(t, h, s, set)
			seen[code]++
			check(h, s, set, lines, code)
		}
	})
	expectCodes(t, seen, impl.HostDone, impl.HostNone, impl.HostRights, impl.HostInvalid)
}

type storeCall struct {
	set        []impl.Span
	how, flags int
}

func eachStore(t *testing.T, check func(h impl.Host, s impl.Session, c storeCall, next impl.Host, code int)) {
	t.Helper()
	seen := map[int]int{}
	eachSession(func(h impl.Host, s impl.Session, n int) {
		for i, how := range []int{1, -1, 0, []int{1, 2, -1, -2, 0}[n%5]} {
			c := storeCall{setFor(n + 3*i), how, []int{8, 31, 0, 1, 16, 21, 32, 10, -1}[(n+i)%9]}
			next, code := storeFlags(t, h, s, c.set, c.how, c.flags)
			seen[code]++
			check(h, s, c, next, code)
		}
	})
	expectCodes(t, seen, impl.HostDone, impl.HostNone, impl.HostRights, impl.HostInvalid)
}

func eachExpunge(t *testing.T, check func(h impl.Host, s impl.Session, next impl.Host, places []int, code int)) {
	t.Helper()
	seen := map[int]int{}
	eachSession(func(h impl.Host, s impl.Session, _ int) {
		next, places, code := expungeMail(t, h, s)
		seen[code]++
		check(h, s, next, places, code)
	})
	expectCodes(t, seen, impl.HostDone, impl.HostNone, impl.HostRights)
}

func eachSearch(t *testing.T, check func(h impl.Host, s impl.Session, k impl.Key, places []int, code int)) {
	t.Helper()
	seen := map[int]int{}
	good, bad := append(fewLeaves(), someKeys(150)...), append(fewBadLeaves(), longKeys()[:9]...)
	eachSession(func(h impl.Host, s impl.Session, n int) {
		for _, k := range []impl.Key{good[n%len(good)], good[(7*n+1)%len(good)], append(good[:40:40], bad...)[n%(40+len(bad))]} {
			places, code := searchMail(t, h, s, k)
			seen[code]++
			check(h, s, k, places, code)
		}
	})
	expectCodes(t, seen, impl.HostDone, impl.HostNone, impl.HostRights, impl.HostInvalid)
}

type copyCall struct {
	set         []impl.Span
	owner, name string
}

func eachCopy(t *testing.T, check func(h impl.Host, s impl.Session, c copyCall, next impl.Host, code int)) {
	t.Helper()
	seen := map[int]int{}
	eachSession(func(h impl.Host, s impl.Session, n int) {
		paths := hostPaths(h)
		own := [2]string{s.User, "inbox"}
		for i, path := range [][2]string{paths[n%len(paths)], own, {s.Owner, s.Name}, paths[(3*n+1)%len(paths)], paths[4+(5*n+2)%(len(paths)-4)]} {
			c := copyCall{setFor(n + 4*i), path[0], path[1]}
			next, code := copyMail(t, h, s, c.set, c.owner, c.name)
			seen[code]++
			check(h, s, c, next, code)
		}
	})
	expectCodes(t, seen, impl.HostDone, impl.HostNone, impl.HostRights, impl.HostQuota, impl.HostFull, impl.HostInvalid)
}

// sessionArguments are what the functions of sessions take.
type sessionArguments struct {
	h           impl.Host
	s           impl.Session
	set         []impl.Span
	k           impl.Key
	owner, name string
}

// sessionResults are what they return; the code is HostInvalid where a function without a code returns nothing.
type sessionResults struct {
	h       impl.Host
	s       impl.Session
	folders []impl.Folder
	lines   []impl.Line
	places  []int
	code    int
}

// stored returns the results of a call that returns a host and a code.
func stored(h impl.Host, code int) sessionResults {
	return sessionResults{h: h, code: code}
}

// shown returns the results of a call that returns lines and a code.
func shown(lines []impl.Line, code int) sessionResults {
	return sessionResults{lines: lines, code: code}
}

// sessionCalls has a call of each function for each kind of its results.
var sessionCalls = map[string]func(a sessionArguments) sessionResults{
	"SessionOpen": func(a sessionArguments) sessionResults {
		u, _ := userCalled(a.h.Users, a.s.User)
		s, ok := impl.SessionOpen(a.h, a.s.User, u.Pass)
		if !ok {
			return sessionResults{s: s, code: impl.HostInvalid}
		}
		return sessionResults{s: s}
	},
	"SessionList": func(a sessionArguments) sessionResults {
		list := impl.SessionList(a.h, a.s)
		if len(list) == 0 {
			return sessionResults{folders: list, code: impl.HostInvalid}
		}
		return sessionResults{folders: list}
	},
	"SessionSelect": func(a sessionArguments) sessionResults {
		s, code := impl.SessionSelect(a.h, a.s, a.owner, a.name)
		return sessionResults{s: s, code: code}
	},
	"SessionSelect of no mailbox": func(a sessionArguments) sessionResults {
		s, code := impl.SessionSelect(a.h, a.s, a.owner, "nobox")
		return sessionResults{s: s, code: code}
	},
	"SessionFetch":           func(a sessionArguments) sessionResults { return shown(impl.SessionFetch(a.h, a.s, a.set)) },
	"SessionFetch of no set": func(a sessionArguments) sessionResults { return shown(impl.SessionFetch(a.h, a.s, nil)) },
	"SessionStore": func(a sessionArguments) sessionResults {
		return stored(impl.SessionStore(a.h, a.s, a.set, 0, 3))
	},
	"SessionStore of no set": func(a sessionArguments) sessionResults {
		return stored(impl.SessionStore(a.h, a.s, a.set[:0], 0, 3))
	},
	"SessionStore of no flags": func(a sessionArguments) sessionResults {
		return stored(impl.SessionStore(a.h, a.s, a.set, 0, 32))
	},
	"SessionStore in no way": func(a sessionArguments) sessionResults {
		return stored(impl.SessionStore(a.h, a.s, a.set, 2, 3))
	},
	"SessionExpunge": func(a sessionArguments) sessionResults {
		h, places, code := impl.SessionExpunge(a.h, a.s)
		return sessionResults{h: h, places: places, code: code}
	},
	"SessionSearch": func(a sessionArguments) sessionResults {
		places, code := impl.SessionSearch(a.h, a.s, a.k)
		return sessionResults{places: places, code: code}
	},
	"SessionSearch for no key": func(a sessionArguments) sessionResults {
		places, code := impl.SessionSearch(a.h, a.s, impl.Key{Kind: 8})
		return sessionResults{places: places, code: code}
	},
	"SessionCopy": func(a sessionArguments) sessionResults {
		return stored(impl.SessionCopy(a.h, a.s, a.set, a.owner, a.name))
	},
	"SessionCopy to the same mailbox": func(a sessionArguments) sessionResults {
		return stored(impl.SessionCopy(a.h, a.s, a.set, a.s.Owner, a.s.Name))
	},
	"SessionCopy to no mailbox": func(a sessionArguments) sessionResults {
		return stored(impl.SessionCopy(a.h, a.s, a.set, a.owner, "nobox"))
	},
	"SessionCopy of no set": func(a sessionArguments) sessionResults {
		return stored(impl.SessionCopy(a.h, a.s, nil, a.owner, a.name))
	},
}

func (r sessionResults) same(other sessionResults) bool {
	return sameHost(r.h, other.h) && r.s == other.s && sameFolders(r.folders, other.folders) && slices.Equal(r.lines, other.lines) && slices.Equal(r.places, other.places) && r.code == other.code
}

// ofAmy are arguments for which all is done in the town where no argument is wrong.
func ofAmy(h impl.Host) sessionArguments {
	return sessionArguments{h: h, s: sessionOf("amy", "amy/inbox"), set: setOf("1:*"), k: allKey(), owner: "amy", name: "box1"}
}

// An invalid host is refused by all functions, whatever else is wrong.
func TestSessionsInInvalidHosts(t *testing.T) {
	for _, h := range notHosts() {
		for _, s := range []impl.Session{sessionOf("amy", "amy/inbox"), sessionOf("bob", "amy/nobox"), {}} {
			a := ofAmy(h)
			a.s = s
			for name, call := range sessionCalls {
				if r := call(a); !r.same(sessionResults{code: impl.HostInvalid}) {
					t.Errorf("%s of %.900q by %q is %.300q", name, []any{h}, []any{s}, []any{r})
				}
			}
		}
	}
}

// The same calls in a valid host, in which they are not refused for another reason than the one that is named.
func TestSessionsInTheTown(t *testing.T) {
	for name, call := range sessionCalls {
		want, nobody := impl.HostDone, impl.HostNone
		switch {
		case strings.Contains(name, "no mailbox"):
			want = impl.HostNone
		case strings.Contains(name, " no "):
			want, nobody = impl.HostInvalid, impl.HostInvalid
		case name == "SessionOpen" || name == "SessionList":
			nobody = impl.HostInvalid
		}
		a := ofAmy(town())
		if r := call(a); r.code != want {
			t.Errorf("%s is %.300q", name, []any{r})
		}
		for _, s := range []impl.Session{{}, sessionOf("zed", "amy/inbox"), sessionOf("anyone", "amy/box1"), sessionOf("", "amy/inbox")} {
			a.s = s
			if r := call(a); r.code != nobody {
				t.Errorf("%s by %q is %.300q", name, s.User, []any{r})
			}
		}
	}
}

func TestP173OpenSessions(t *testing.T) {
	opened := 0
	for _, h := range append(hosts(), readHosts()...) {
		for _, name := range append(hostNames(h), "inbox", "am", "amyy", "Amy") {
			for _, pass := range append(triedPasses(h.Users), "inbox", name) {
				s, ok := openSession(t, h, name, pass)
				if !ok {
					continue
				}
				opened++
				if s.User != name || s.Owner != name || s.Name != impl.Inbox || !impl.UsersProve(h.Users, name, pass) {
					t.Errorf("SessionOpen(%q, %q, %q) is %q", []any{h}, name, pass, []any{s})
				}
				if _, code := fetchLines(t, h, s, setOf("*")); code != impl.HostDone {
					t.Errorf("after SessionOpen(%q, %q, %q), SessionFetch has the code %d", []any{h}, name, pass, code)
				}
			}
		}
	}
	if opened < 200 {
		t.Errorf("%d sessions were opened", opened)
	}
}

func TestP174SessionsThatAreNotOpened(t *testing.T) {
	for _, h := range append(hosts(), fewNotHosts()...) {
		for _, u := range append(slices.Clone(h.Users[:min(4, len(h.Users))]), impl.User{Name: "amy", Pass: "b2"}) {
			for _, pass := range []string{u.Pass, "a1", u.Pass + "0", "", u.Name} {
				s, ok := openSession(t, h, u.Name, pass)
				if want := impl.HostValid(h) && impl.UsersProve(h.Users, u.Name, pass); ok != want || !ok && s != (impl.Session{}) {
					t.Errorf("SessionOpen(%.900q, %q, %q) is %q, %v", []any{h}, u.Name, pass, []any{s}, ok)
				}
			}
		}
	}
	for _, c := range []struct {
		name, pass string
		ok         bool
	}{
		{"amy", "a1", true}, {"bob", "b2", true}, {"cleo", "c3", true}, {"dan", "d4", true}, {"amy", "b2", false}, {"amy", "", false}, {"amy", "A1", false}, {"amy", "a", false}, {"amy", "a12", false}, {"amy", "amy", false},
		{"zed", "a1", false}, {"anyone", "a1", false}, {"anyone", "anyone", false}, {"", "", false}, {"", "a1", false}, {"Amy", "a1", false}, {"amy ", "a1", false}, {"am", "a1", false}, {"a1", "amy", false}, {"inbox", "a1", false},
	} {
		if s, ok := openSession(t, town(), c.name, c.pass); ok != c.ok {
			t.Errorf("SessionOpen of %q, %q is %q, %v", c.name, c.pass, []any{s}, ok)
		}
	}
}

func TestP175ListedMailboxes(t *testing.T) {
	eachSession(func(h impl.Host, s impl.Session, _ int) {
		at := 0
		for _, f := range listFolders(t, h, s) {
			for at < len(h.Folders) && pathOf(h.Folders[at]) != pathOf(f) {
				at++
			}
			if at == len(h.Folders) || len(f.Grants) != 0 || !sameBox(f.Box, impl.Box{}) {
				t.Fatalf("SessionList(%q, %q) has %q, or has it not in its place", []any{h}, []any{s}, []any{f})
			}
			if !hasFlag(impl.AclRights(h.Folders[at].Grants, f.Owner, s.User), impl.RightSee) {
				t.Errorf("SessionList(%q, %q) has %q, which is not to be seen", []any{h}, []any{s}, []any{f})
			}
		}
	})
}

func TestP176CountOfListedMailboxes(t *testing.T) {
	eachSession(func(h impl.Host, s impl.Session, _ int) {
		count := 0
		for _, f := range h.Folders {
			if isCalled(h.Users, s.User) && hasFlag(impl.AclRights(f.Grants, f.Owner, s.User), impl.RightSee) {
				count++
			}
		}
		if list := listFolders(t, h, s); len(list) != count {
			t.Errorf("SessionList(%q, %q) is %q", []any{h}, []any{s}, []any{list})
		}
	})
}

// The mailbox that is selected does not matter, and who may read a mailbox does not see it by that.
func TestP176NamedLists(t *testing.T) {
	for user, want := range map[string]string{
		"amy": "amy/box1 amy/inbox bob/inbox cleo/archive cleo/inbox", "bob": "amy/box1 bob/inbox cleo/inbox dan/inbox", "cleo": "amy/box1 bob/inbox cleo/archive cleo/inbox", "dan": "amy/box1 cleo/inbox dan/inbox", "zed": "", "anyone": "", "": "", "Amy": "",
	} {
		for _, path := range []string{"amy/inbox", "bob/inbox", "dan/inbox", "amy/nobox", "zed/inbox", ""} {
			var paths []string
			for _, f := range impl.SessionList(town(), sessionOf(user, path)) {
				paths = append(paths, pathOf(f))
			}
			if got := strings.Join(paths, " "); got != want {
				t.Errorf("SessionList for %q in %q is %q", user, path, got)
			}
		}
	}
	own := hostOf("amy:a1:60 bob:b2:20", impl.Queue{Next: 1}, folderOf("amy/box1", "anyone=62 bob=62", boxOf(1)), folderOf("bob/box2", "amy=1", boxOf(1)))
	if list := listFolders(t, own, sessionOf("bob", "bob/inbox")); len(list) != 2 || list[0].Owner != "bob" || list[0].Name != "box2" || list[1].Owner != "bob" || list[1].Name != "inbox" {
		t.Errorf("SessionList of a user who sees only the own mailboxes is %q", []any{list})
	}
}

// eachSelect calls check with all sessions of a few hosts and each mailbox, and with what SessionSelect returns.
func eachSelect(t *testing.T, check func(h impl.Host, s impl.Session, owner string, name string, next impl.Session, code int)) {
	t.Helper()
	seen := map[int]int{}
	eachSession(func(h impl.Host, s impl.Session, n int) {
		paths := append(hostPaths(h), [2]string{s.Owner, s.Name}, [2]string{s.User, "inbox"})
		for i, path := range paths {
			if i >= len(paths)-2 || (i+n)%3 == 0 {
				next, code := selectFolder(t, h, s, path[0], path[1])
				seen[code]++
				check(h, s, path[0], path[1], next, code)
			}
		}
	})
	expectCodes(t, seen, impl.HostDone, impl.HostNone, impl.HostRights)
}

func TestP177SelectedMailboxes(t *testing.T) {
	eachSelect(t, func(h impl.Host, s impl.Session, owner string, name string, next impl.Session, code int) {
		rights := impl.AclRights(grantsOf(h, owner, name), owner, s.User)
		if code == impl.HostDone && (next != impl.Session{User: s.User, Owner: owner, Name: name} || !hasFlag(rights, impl.RightSee) || !hasFlag(rights, impl.RightRead)) {
			t.Errorf("SessionSelect(%q, %q, %q, %q) is %q", []any{h}, []any{s}, owner, name, []any{next})
		}
	})
}

// The mailbox that was selected before may not be read, or not be there.
func TestP177SelectedFromAnywhere(t *testing.T) {
	h := town()
	for _, before := range []string{"amy/inbox", "bob/inbox", "dan/inbox", "cleo/archive", "amy/nobox", "zed/inbox", "", "bob/"} {
		for path, want := range map[string]int{"bob/inbox": 0, "amy/box1": 0, "amy/inbox": 1, "cleo/archive": 1, "cleo/inbox": 0, "dan/inbox": 2, "bob/nobox": 1, "zed/inbox": 1, "": 1, "bob/": 1, "/inbox": 1} {
			s, to := sessionOf("bob", before), sessionOf("bob", path)
			next, code := impl.SessionSelect(h, s, to.Owner, to.Name)
			if code != want || code == impl.HostDone && next != to || code != impl.HostDone && next != s {
				t.Errorf("SessionSelect of %q after %q is %q, %d", path, before, []any{next}, code)
			}
			for _, user := range []string{"zed", "anyone", ""} {
				s.User = user
				if next, code := impl.SessionSelect(h, s, to.Owner, to.Name); code != impl.HostNone || next != s {
					t.Errorf("SessionSelect of %q by %q is %q, %d", path, user, []any{next}, code)
				}
			}
		}
	}
}

func TestP178SelectionsThatAreRefused(t *testing.T) {
	eachSelect(t, func(h impl.Host, s impl.Session, owner string, name string, next impl.Session, code int) {
		_, fetched := fetchLines(t, h, impl.Session{User: s.User, Owner: owner, Name: name}, setOf("1:*"))
		if fetched != code || code != impl.HostDone && next != s {
			t.Errorf("SessionSelect(%q, %q, %q, %q) is %q, %d, and SessionFetch there has the code %d", []any{h}, []any{s}, owner, name, []any{next}, code, fetched)
		}
	})
}

func TestP179FetchedLines(t *testing.T) {
	eachFetch(t, func(h impl.Host, s impl.Session, set []impl.Span, lines []impl.Line, code int) {
		if code != impl.HostDone {
			return
		}
		f, _ := impl.HostFolder(h, s.Owner, s.Name)
		places := impl.SetNumbers(set, len(f.Box.Mail))
		if len(lines) != len(places) {
			t.Fatalf("SessionFetch(%q, %q, %v) has %d lines", []any{h}, []any{s}, set, len(lines))
		}
		for i, place := range places {
			m := f.Box.Mail[place-1]
			if lines[i] != (impl.Line{Place: place, Uid: m.Uid, Flags: m.Flags, Text: m.Text}) {
				t.Errorf("SessionFetch(%q, %q, %v) has the line %q", []any{h}, []any{s}, set, []any{lines[i]})
			}
		}
	})
}

// All sets, in mailboxes of each number of messages.
func TestP179AllSets(t *testing.T) {
	for count := range 11 {
		f := folderOf("amy/box1", "bob=3", boxOf(60, strings.Split("a,,ccc,dd,e,ff,g,hhhh,iii,jj", ",")[:count]...))
		h := hostOf("amy:a1:60 bob:b2:20", impl.Queue{Next: 1}, f)
		for _, set := range sets() {
			for _, user := range []string{"amy", "bob"} {
				lines, code := fetchLines(t, h, sessionOf(user, "amy/box1"), set)
				var places []int
				for _, line := range lines {
					places = append(places, line.Place)
				}
				if code != impl.HostDone || !slices.Equal(places, numbersOf(set, count)) {
					t.Errorf("SessionFetch of %v from %d messages is %q, %d", set, count, []any{lines}, code)
				}
			}
		}
	}
}

func TestP179NamedLines(t *testing.T) {
	for _, c := range []struct{ user, path, set, lines string }{
		{"amy", "amy/box1", "1:*", "1:1:8:hello 2:2:19: 3:3:30:one two\n"}, {"amy", "amy/box1", "*", "3:3:30:one two\n"}, {"amy", "amy/box1", "3:2", "2:2:19: 3:3:30:one two\n"}, {"bob", "amy/box1", "1,3", "1:1:8:hello 3:3:30:one two\n"}, {"dan", "amy/box1", "2,*:2", "2:2:19: 3:3:30:one two\n"},
		{"cleo", "amy/box1", "4:99", ""}, {"cleo", "amy/box1", "5:*", "3:3:30:one two\n"}, {"cleo", "amy/box1", "99:3", "3:3:30:one two\n"}, {"amy", "amy/inbox", "2,1,2", "1:1:8:first 2:2:19:second"}, {"dan", "dan/inbox", "1:9", "1:1:8: 2:2:19:"}, {"cleo", "cleo/archive", "*", "1:1:8:old"},
	} {
		lines, code := impl.SessionFetch(town(), sessionOf(c.user, c.path), setOf(c.set))
		var texts []string
		for _, line := range lines {
			texts = append(texts, strconv.Itoa(line.Place)+":"+strconv.Itoa(line.Uid)+":"+strconv.Itoa(line.Flags)+":"+line.Text)
		}
		if code != impl.HostDone || strings.Join(texts, " ") != c.lines {
			t.Errorf("SessionFetch of %s by %s in %s is %q, %d", c.set, c.user, c.path, texts, code)
		}
	}
}

func TestP180RightToFetch(t *testing.T) {
	eachFetch(t, func(h impl.Host, s impl.Session, set []impl.Span, lines []impl.Line, code int) {
		f, ok := impl.HostFolder(h, s.Owner, s.Name)
		rights := impl.AclRights(f.Grants, s.Owner, s.User)
		may := ok && isCalled(h.Users, s.User) && hasFlag(rights, impl.RightSee) && hasFlag(rights, impl.RightRead)
		if code != impl.HostInvalid && may != (code == impl.HostDone) || code != impl.HostDone && len(lines) != 0 || isSet(set) != (code != impl.HostInvalid) {
			t.Errorf("SessionFetch(%q, %q, %v) is %q, %d", []any{h}, []any{s}, set, []any{lines}, code)
		}
	})
	for _, h := range rightsHosts() {
		rights := rightsIn(grantsOf(h, "amy", "box1"), "amy", "bob")
		if _, code := fetchLines(t, h, sessionOf("bob", "amy/box1"), setOf("1:*")); code != codeOfRights(rights, impl.RightRead) {
			t.Errorf("with the rights %d, SessionFetch has the code %d", rights, code)
		}
	}
}

func TestP180SetsThatAreNone(t *testing.T) {
	h := rightsHost(1, 0)
	for _, set := range notSets() {
		for _, s := range []impl.Session{sessionOf("amy", "amy/box1"), sessionOf("bob", "amy/box1"), sessionOf("bob", "amy/inbox"), sessionOf("zed", "amy/nobox"), {}} {
			lines, code := impl.SessionFetch(h, s, set)
			stored, second := impl.SessionStore(h, s, set, 1, 1)
			moved, third := impl.SessionCopy(h, s, set, "amy", "inbox")
			if code != impl.HostInvalid || second != code || third != code || len(lines) != 0 || !sameHost(stored, impl.Host{}) || !sameHost(moved, impl.Host{}) {
				t.Errorf("with the set %.300v, the codes of SessionFetch, SessionStore and SessionCopy are %d, %d and %d", set, code, second, third)
			}
		}
	}
}

func TestP181FetchedInboxes(t *testing.T) {
	for _, h := range append(hosts(), readHosts()...) {
		for _, u := range h.Users {
			s, _ := openSession(t, h, u.Name, u.Pass)
			f, _ := impl.HostFolder(h, u.Name, impl.Inbox)
			for _, set := range []string{"1:*", "*:1", "1:10", "99:1"} {
				lines, code := fetchLines(t, h, s, setOf(set))
				if code != impl.HostDone || len(lines) != len(f.Box.Mail) {
					t.Errorf("SessionFetch(%q, %q, %s) is %q, %d", []any{h}, []any{s}, set, []any{lines}, code)
				}
				for i, line := range lines {
					if m := f.Box.Mail[i]; line != (impl.Line{Place: i + 1, Uid: m.Uid, Flags: m.Flags, Text: m.Text}) {
						t.Errorf("SessionFetch(%q, %q, %s) has the line %q", []any{h}, []any{s}, set, []any{line})
					}
				}
			}
		}
	}
}

func TestP182StoredFlags(t *testing.T) {
	eachStore(t, func(h impl.Host, s impl.Session, c storeCall, next impl.Host, code int) {
		if code != impl.HostDone {
			return
		}
		before, _ := folderNamed(h, s.Owner, s.Name)
		f, _ := impl.HostFolder(next, s.Owner, s.Name)
		want, ok := impl.BoxFlags(before.Box, impl.SetNumbers(c.set, len(before.Box.Mail)), c.how, c.flags)
		if !ok || !sameBox(f.Box, want) || !slices.Equal(f.Grants, before.Grants) || !sameHost(otherParts(next, s.Owner, s.Name), otherParts(h, s.Owner, s.Name)) {
			t.Errorf("SessionStore(%q, %q, %v) is %q", []any{h}, []any{s}, c, []any{next})
		}
	})
}

// Each kind of change, valid or not, with all flags and numbers that are none.
func TestP182AllChanges(t *testing.T) {
	h := rightsHost(7, 0)
	for _, how := range append(badHows(), 1, 0, -1) {
		for _, flags := range anyNumbers() {
			for _, s := range []impl.Session{sessionOf("bob", "amy/box1"), sessionOf("cleo", "amy/box1"), sessionOf("zed", "amy/box1"), sessionOf("amy", "amy/nobox")} {
				next, code := storeFlags(t, h, s, setOf("*"), how, flags)
				valid := (how == 1 || how == 0 || how == -1) && isFlags(flags)
				if valid == (code == impl.HostInvalid) || valid && s.User == "bob" && (code != impl.HostDone || next.Folders[0].Box.Mail[1].Flags != changed(19, how, flags)) {
					t.Errorf("SessionStore by %q with %d and %d is %q, %d", s.User, how, flags, []any{next}, code)
				}
			}
		}
	}
}

func TestP182NamedChanges(t *testing.T) {
	for _, c := range []struct {
		user, path, set  string
		how, flags, code int
		want             string
	}{
		{"amy", "amy/box1", "1:*", 1, 4, 0, "12 23 30"}, {"amy", "amy/box1", "1:*", -1, 8, 0, "0 19 22"}, {"amy", "amy/box1", "2", 0, 5, 0, "8 5 30"}, {"amy", "amy/box1", "*,1", 0, 0, 0, "0 19 0"}, {"amy", "amy/box1", "3:2", 1, 31, 0, "8 31 31"}, {"amy", "amy/box1", "4:9", 0, 31, 0, "8 19 30"},
		{"bob", "amy/box1", "1:*", 1, 4, 2, "8 19 30"}, {"dan", "amy/box1", "9", 1, 4, 2, "8 19 30"}, {"zed", "amy/box1", "1:*", 1, 4, 1, "8 19 30"}, {"amy", "amy/box2", "1:*", 1, 4, 1, "8 19 30"}, {"amy", "bob/inbox", "*", 1, 4, 0, "8 19 30"}, {"cleo", "cleo/archive", "1", -1, 8, 0, "8 19 30"},
		{"bob", "cleo/archive", "1", -1, 8, 1, "8 19 30"}, {"amy", "cleo/archive", "1", -1, 8, 0, "8 19 30"}, {"bob", "dan/inbox", "1", 0, 0, 2, "8 19 30"}, {"dan", "dan/inbox", "1", 0, 0, 0, "8 19 30"},
	} {
		next, code := storeFlags(t, town(), sessionOf(c.user, c.path), setOf(c.set), c.how, c.flags)
		f, _ := impl.HostFolder(next, "amy", "box1")
		var flags []string
		for _, m := range f.Box.Mail {
			flags = append(flags, strconv.Itoa(m.Flags))
		}
		if code != c.code || strings.Join(flags, " ") != c.want {
			t.Errorf("SessionStore by %s in %s of %s, %d, %d leads to %v, %d", c.user, c.path, c.set, c.how, c.flags, flags, code)
		}
	}
}

func TestP183StoredTwice(t *testing.T) {
	eachStore(t, func(h impl.Host, s impl.Session, c storeCall, next impl.Host, code int) {
		if code != impl.HostDone {
			return
		}
		if again, twice := storeFlags(t, next, s, c.set, c.how, c.flags); twice != impl.HostDone || !sameHost(again, next) {
			t.Errorf("the second SessionStore(%q, %q, %v) is %q, %d", []any{h}, []any{s}, c, []any{again}, twice)
		}
	})
}

func TestP184ChangesThatAreRefused(t *testing.T) {
	eachStore(t, func(h impl.Host, s impl.Session, c storeCall, next impl.Host, code int) {
		rights := impl.AclRights(grantsOf(h, s.Owner, s.Name), s.Owner, s.User)
		missing := !hasFlag(rights, impl.RightRead) || !hasFlag(rights, impl.RightFlag)
		if !isRefused(h, next, code) || code == impl.HostRights && !missing || code == impl.HostDone && missing {
			t.Errorf("SessionStore(%q, %q, %v) is %q, %d", []any{h}, []any{s}, c, []any{next}, code)
		}
	})
}

// codeOfWork returns the code of a session of a user who has some rights in the selected mailbox and needs one.
func codeOfWork(rights int, needed int) int {
	return cmp.Or(codeOfRights(rights, impl.RightRead), codeOfRights(rights, needed))
}

func TestP184RightToStore(t *testing.T) {
	for _, h := range rightsHosts() {
		rights := rightsIn(grantsOf(h, "amy", "box1"), "amy", "bob")
		for _, set := range []string{"1:*", "9"} {
			if _, code := storeFlags(t, h, sessionOf("bob", "amy/box1"), setOf(set), 1, 4); code != codeOfWork(rights, impl.RightFlag) {
				t.Errorf("with the rights %d, SessionStore has the code %d", rights, code)
			}
			if _, code := storeFlags(t, h, sessionOf("amy", "amy/box1"), setOf(set), 1, 4); code != impl.HostDone {
				t.Errorf("SessionStore by the owner has the code %d", code)
			}
		}
	}
}

func TestP185FlagsThatAreShown(t *testing.T) {
	eachStore(t, func(h impl.Host, s impl.Session, c storeCall, next impl.Host, code int) {
		if code != impl.HostDone {
			return
		}
		lines, fetched := fetchLines(t, next, s, c.set)
		before, _ := folderNamed(h, s.Owner, s.Name)
		if fetched != impl.HostDone || len(lines) != len(numbersOf(c.set, len(before.Box.Mail))) {
			t.Errorf("after SessionStore(%q, %q, %v), SessionFetch is %q, %d", []any{h}, []any{s}, c, []any{lines}, fetched)
		}
		for _, line := range lines {
			if impl.FlagsChange(line.Flags, c.how, c.flags) != line.Flags || line.Flags != changed(before.Box.Mail[line.Place-1].Flags, c.how, c.flags) {
				t.Errorf("after SessionStore(%q, %q, %v), there is the line %q", []any{h}, []any{s}, c, []any{line})
			}
		}
	})
}

func TestP186ExpungedMailboxes(t *testing.T) {
	removed := 0
	eachExpunge(t, func(h impl.Host, s impl.Session, next impl.Host, places []int, code int) {
		if code != impl.HostDone {
			return
		}
		before, _ := folderNamed(h, s.Owner, s.Name)
		f, _ := impl.HostFolder(next, s.Owner, s.Name)
		want, gone := impl.BoxExpunge(before.Box)
		if !sameBox(f.Box, want) || !slices.Equal(places, gone) || !slices.Equal(f.Grants, before.Grants) || !sameHost(otherParts(next, s.Owner, s.Name), otherParts(h, s.Owner, s.Name)) {
			t.Errorf("SessionExpunge(%q, %q) is %q, %v", []any{h}, []any{s}, []any{next}, places)
		}
		removed += len(places)
	})
	if removed < 200 {
		t.Errorf("%d messages were removed", removed)
	}
}

// Each choice of deleted messages among five.
func TestP186AllChoices(t *testing.T) {
	for i, b := range deletedBoxes(5) {
		h := hostOf("amy:a1:200 bob:b2:200", impl.Queue{Next: 1}, folderOf("amy/box1", "bob=19", b), folderOf("bob/box1", "amy=19", deletedBoxes(3)[i%8]))
		for _, s := range []impl.Session{sessionOf("amy", "amy/box1"), sessionOf("bob", "amy/box1"), sessionOf("amy", "bob/box1")} {
			before, _ := folderNamed(h, s.Owner, s.Name)
			next, places, code := expungeMail(t, h, s)
			f, _ := impl.HostFolder(next, s.Owner, s.Name)
			if code != impl.HostDone || len(f.Box.Mail)+len(places) != len(before.Box.Mail) || f.Box.Next != before.Box.Next || slices.ContainsFunc(f.Box.Mail, isDeleted) {
				t.Errorf("SessionExpunge(%q, %q) is %q, %v, %d", []any{h}, []any{s}, []any{next}, places, code)
			}
		}
	}
}

func TestP187BytesThatAreLeft(t *testing.T) {
	eachExpunge(t, func(h impl.Host, s impl.Session, next impl.Host, places []int, code int) {
		if code != impl.HostDone {
			return
		}
		for _, u := range h.Users {
			before, used := impl.HostUsed(h, u.Name), impl.HostUsed(next, u.Name)
			if used > before || used != before && u.Name != s.Owner {
				t.Errorf("after SessionExpunge(%q, %q), %q has %d bytes", []any{h}, []any{s}, u.Name, used)
			}
		}
		if again, gone, twice := expungeMail(t, next, s); twice != impl.HostDone || len(gone) != 0 || !sameHost(again, next) {
			t.Errorf("the second SessionExpunge(%q, %q) is %q, %v, %d", []any{h}, []any{s}, []any{again}, gone, twice)
		}
	})
}

func TestP188ExpungesThatAreRefused(t *testing.T) {
	eachExpunge(t, func(h impl.Host, s impl.Session, next impl.Host, places []int, code int) {
		if !isRefused(h, next, code) || code != impl.HostDone && len(places) != 0 {
			t.Errorf("SessionExpunge(%q, %q) is %q, %v, %d", []any{h}, []any{s}, []any{next}, places, code)
		}
	})
	for _, h := range rightsHosts() {
		rights := rightsIn(grantsOf(h, "amy", "box1"), "amy", "bob")
		if _, places, code := expungeMail(t, h, sessionOf("bob", "amy/box1")); code != codeOfWork(rights, impl.RightRemove) || (code == impl.HostDone) != (len(places) == 1) {
			t.Errorf("with the rights %d, SessionExpunge is %v, %d", rights, places, code)
		}
		if _, places, code := expungeMail(t, h, sessionOf("amy", "amy/box1")); code != impl.HostDone || len(places) != 1 {
			t.Errorf("SessionExpunge by the owner is %v, %d", places, code)
		}
	}
}

func TestP189FoundPlaces(t *testing.T) {
	eachSearch(t, func(h impl.Host, s impl.Session, k impl.Key, places []int, code int) {
		f, _ := impl.HostFolder(h, s.Owner, s.Name)
		if code == impl.HostDone && !slices.Equal(places, impl.SearchBox(f.Box, k)) || code != impl.HostDone && len(places) != 0 {
			t.Errorf("SessionSearch(%q, %q, %v) is %v, %d", []any{h}, []any{s}, k, places, code)
		}
	})
}

func TestP189RightToSearch(t *testing.T) {
	for _, h := range rightsHosts() {
		rights := rightsIn(grantsOf(h, "amy", "box1"), "amy", "bob")
		places, code := searchMail(t, h, sessionOf("bob", "amy/box1"), allKey())
		if code != codeOfRights(rights, impl.RightRead) || (code == impl.HostDone) != (len(places) == 2) {
			t.Errorf("with the rights %d, SessionSearch is %v, %d", rights, places, code)
		}
	}
}

// Valid keys, and invalid ones in all cases of other refusals.
func TestP189AllKeys(t *testing.T) {
	h := hostOf("amy:a1:200 bob:b2:20", impl.Queue{Next: 1}, folderOf("amy/box1", "bob=3", textBoxes()[9]), folderOf("amy/box2", "bob=1", boxOf(1)))
	for i, k := range keys() {
		if places, code := searchMail(t, h, sessionOf([]string{"amy", "bob"}[i%2], "amy/box1"), k); code != impl.HostDone {
			t.Errorf("SessionSearch of %v is %v, %d", k, places, code)
		}
	}
	sessions := []impl.Session{sessionOf("bob", "amy/box1"), sessionOf("bob", "amy/box2"), sessionOf("bob", "amy/inbox"), sessionOf("zed", "amy/box1"), {}}
	for i, k := range notKeys() {
		if places, code := impl.SessionSearch(h, sessions[i%5], k); code != impl.HostInvalid || len(places) != 0 {
			t.Errorf("SessionSearch of %.300v is %v, %d", k, places, code)
		}
	}
	for i, k := range append(endlessKeys(), fewBadLeaves()...) {
		for _, s := range sessions {
			if places, code := impl.SessionSearch(h, s, k); code != impl.HostInvalid || len(places) != 0 {
				t.Errorf("SessionSearch of the key %d is %v, %d", i, places, code)
			}
		}
	}
}

func TestP190LinesOfFoundPlaces(t *testing.T) {
	eachSearch(t, func(h impl.Host, s impl.Session, k impl.Key, places []int, code int) {
		if code != impl.HostDone {
			return
		}
		for _, place := range places {
			lines, fetched := impl.SessionFetch(h, s, []impl.Span{{Low: place, High: place}})
			if fetched != impl.HostDone || len(lines) != 1 || lines[0].Place != place {
				t.Errorf("after SessionSearch(%q, %q, %v), SessionFetch of %d is %q, %d", []any{h}, []any{s}, k, place, []any{lines}, fetched)
			}
		}
	})
}

func TestP191CopiedMessages(t *testing.T) {
	done, same := 0, 0
	eachCopy(t, func(h impl.Host, s impl.Session, c copyCall, next impl.Host, code int) {
		if code != impl.HostDone {
			return
		}
		b, places := boxIn(h, s, c.set)
		before, _ := folderNamed(h, c.owner, c.name)
		f, _ := impl.HostFolder(next, c.owner, c.name)
		want, ok := impl.BoxCopy(b, places, before.Box)
		if !ok || !sameBox(f.Box, want) || !slices.Equal(f.Grants, before.Grants) || !sameHost(otherParts(next, c.owner, c.name), otherParts(h, c.owner, c.name)) {
			t.Errorf("SessionCopy(%q, %q, %v) is %q", []any{h}, []any{s}, c, []any{next})
		}
		if len(places) > 1 {
			done++
		}
		if len(places) > 1 && s.Owner == c.owner && s.Name == c.name {
			same++
		}
	})
	if done < 200 || same < 50 {
		t.Errorf("more than one message was copied %d times, and %d times to the same mailbox", done, same)
	}
}

func TestP191NamedCopies(t *testing.T) {
	h := hostOf("amy:a1:60 bob:b2:20 cleo:c3:9", impl.Queue{Next: 1},
		folderOf("amy/inbox", "bob=3", boxOf(9, "one", "three", "", "four")), folderOf("amy/box1", "bob=9 cleo=1", boxOf(4, "x")), folderOf("bob/inbox", "amy=9", boxOf(2, "bob's")), folderOf("bob/box1", "anyone=9", boxOf(1)), folderOf("cleo/inbox", "anyone=2 bob=10", boxOf(1)))
	for _, c := range []struct {
		user, from, set, to string
		code                int
		texts, flags        string
		next                int
	}{
		{"amy", "amy/inbox", "1:*", "amy/box1", 0, "x|one|three||four", "8 8 19 30 9", 8}, {"amy", "amy/inbox", "*,1", "amy/box1", 0, "x|one|four", "8 8 9", 6}, {"bob", "amy/inbox", "3:2", "amy/box1", 0, "x|three|", "8 19 30", 6}, {"amy", "amy/inbox", "2", "amy/inbox", 0, "one|three||four|three", "8 19 30 9 19", 10},
		{"amy", "amy/inbox", "1:*", "amy/inbox", 0, "one|three||four|one|three||four", "8 19 30 9 8 19 30 9", 13}, {"bob", "amy/inbox", "1:*", "bob/inbox", 0, "bob's|one|three||four", "8 8 19 30 9", 6}, {"amy", "amy/inbox", "1", "bob/box1", 0, "one", "8", 2}, {"amy", "amy/inbox", "5:9", "amy/box1", 0, "x", "8", 4},
		{"amy", "amy/inbox", "6:*", "amy/box1", 0, "x|four", "8 9", 5}, {"bob", "bob/box1", "1:*", "amy/box1", 0, "x", "8", 4}, {"bob", "bob/box1", "1:*", "cleo/inbox", 1, "", "", 1}, {"bob", "amy/inbox", "1", "amy/inbox", 2, "one|three||four", "8 19 30 9", 9}, {"cleo", "amy/inbox", "1", "cleo/inbox", 1, "", "", 1},
		{"cleo", "amy/box1", "1", "cleo/inbox", 2, "", "", 1}, {"cleo", "amy/box1", "1", "cleo/nobox", 2, "", "", 0}, {"cleo", "bob/box1", "1", "cleo/inbox", 2, "", "", 1}, {"cleo", "cleo/inbox", "1", "amy/box1", 2, "x", "8", 4}, {"cleo", "cleo/inbox", "1", "bob/inbox", 1, "bob's", "8", 2}, {"cleo", "cleo/inbox", "1", "bob/box1", 0, "", "", 1},
		{"zed", "amy/inbox", "1", "amy/box1", 1, "x", "8", 4}, {"amy", "amy/nobox", "1", "amy/box1", 1, "x", "8", 4}, {"amy", "amy/inbox", "1", "zed/inbox", 1, "", "", 0}, {"amy", "amy/inbox", "7", "zed/inbox", 1, "", "", 0}, {"amy", "amy/inbox", "99", "cleo/inbox", 1, "", "", 1},
	} {
		to := sessionOf(c.user, c.to)
		next, code := copyMail(t, h, sessionOf(c.user, c.from), setOf(c.set), to.Owner, to.Name)
		f, _ := impl.HostFolder(next, to.Owner, to.Name)
		var flags []string
		for _, m := range f.Box.Mail {
			flags = append(flags, strconv.Itoa(m.Flags))
		}
		if code != c.code || textsIn(next, to.Owner, to.Name) != c.texts || strings.Join(flags, " ") != c.flags || f.Box.Next != c.next {
			t.Errorf("SessionCopy by %s of %s from %s to %s is %q, %d", c.user, c.set, c.from, c.to, []any{f}, code)
		}
	}
}

func TestP192CopiesThatAreRefused(t *testing.T) {
	eachCopy(t, func(h impl.Host, s impl.Session, c copyCall, next impl.Host, code int) {
		if !isRefused(h, next, code) {
			t.Errorf("SessionCopy(%q, %q, %v) is %q, %d", []any{h}, []any{s}, c, []any{next}, code)
		}
	})
}

// The rights that are needed, in the mailbox that is read and in the other one, for the same user.
func TestP192RightsToCopy(t *testing.T) {
	for _, h := range rightsHosts() {
		rights := rightsIn(grantsOf(h, "amy", "box1"), "amy", "bob")
		if _, code := copyMail(t, h, sessionOf("bob", "amy/box1"), setOf("1"), "bob", "inbox"); code != codeOfRights(rights, impl.RightRead) {
			t.Errorf("with the rights %d, SessionCopy from the mailbox has the code %d", rights, code)
		}
		if _, code := copyMail(t, h, sessionOf("bob", "bob/inbox"), setOf("1"), "amy", "box1"); code != codeOfRights(rights, impl.RightPut) {
			t.Errorf("with the rights %d, SessionCopy to the mailbox has the code %d", rights, code)
		}
		if _, code := copyMail(t, h, sessionOf("bob", "amy/box1"), setOf("1"), "amy", "box1"); code != codeOfWork(rights, impl.RightPut) {
			t.Errorf("with the rights %d, SessionCopy within the mailbox has the code %d", rights, code)
		}
	}
}

// Each number of messages, with each number of places and of numbers that are left in the other mailbox, and each
// number of bytes that are left; of the messages, the second one has no bytes.
func TestP192PartsThatFit(t *testing.T) {
	texts := []string{"aa", "", "bbb", "c", "dddd"}
	for count := range len(texts) + 1 {
		for space := range 5 {
			for numbers := range 5 {
				for room := range 11 {
					f := folderOf("bob/box1", "amy=9", boxOf(100-numbers, make([]string, 10-space)...))
					h := hostOf("amy:a1:60 bob:b2:20", impl.Queue{Next: 1}, folderOf("amy/box1", "", boxOf(9, texts[:count]...)), f, folderOf("bob/inbox", "", boxOfSize(20-room)))
					want, bytes := impl.HostDone, 0
					for i, text := range texts[:count] {
						bytes += len(text)
						if want == impl.HostDone && (i >= space || i >= numbers) {
							want = impl.HostFull
						}
						if (want == impl.HostDone || want == impl.HostFull && i == min(space, numbers)) && bytes > room {
							want = impl.HostQuota
						}
					}
					next, code := copyMail(t, h, sessionOf("amy", "amy/box1"), setOf("1:*"), "bob", "box1")
					if code != want || !isRefused(h, next, code) {
						t.Errorf("with %d messages, %d places, %d numbers and %d bytes left, SessionCopy is %q, %d, not %d", count, space, numbers, room, []any{next}, code, want)
					}
				}
			}
		}
	}
}

// A copy to the same mailbox, until it is full, its numbers are given, or the quota is reached.
func TestP192CopiesUntilFull(t *testing.T) {
	for _, c := range []struct {
		quota, next, want int
		texts             string
	}{{60, 3, 4, "a|b|a|b|a|b|a|b|a|b"}, {60, 98, 4, "a|b|a|b"}, {60, 99, 4, "a|b"}, {60, 100, 4, "a|b"}, {7, 3, 3, "a|b|a|b|a|b"}, {10, 3, 3, "a|b|a|b|a|b|a|b|a|b"}, {11, 3, 4, "a|b|a|b|a|b|a|b|a|b"}, {9, 3, 3, "a|b|a|b|a|b|a|b"}, {2, 3, 3, "a|b"}, {2, 100, 3, "a|b"}, {3, 100, 4, "a|b"}} {
		h := hostOf("amy:a1:60", impl.Queue{Next: 1}, folderOf("amy/inbox", "", boxOf(c.next, "a", "b")))
		h.Users[0].Quota = c.quota
		code := impl.HostDone
		for code == impl.HostDone {
			h, code = copyMail(t, h, sessionOf("amy", "amy/inbox"), setOf("1:2"), "amy", "inbox")
		}
		if code != c.want || textsIn(h, "amy", "inbox") != c.texts {
			t.Errorf("with the quota %d and from the number %d on, SessionCopy leads to %q, %d", c.quota, c.next, []any{h}, code)
		}
	}
}

func TestP193BytesOfCopies(t *testing.T) {
	exceeded := 0
	eachCopy(t, func(h impl.Host, s impl.Session, c copyCall, next impl.Host, code int) {
		b, places := boxIn(h, s, c.set)
		bytes := 0
		for _, place := range places {
			bytes += len(b.Mail[place-1].Text)
		}
		owner, _ := impl.UsersFind(h.Users, c.owner)
		if code == impl.HostQuota && impl.HostUsed(h, c.owner)+bytes <= owner.Quota {
			t.Errorf("SessionCopy(%q, %q, %v) has the code %d", []any{h}, []any{s}, c, code)
		}
		if code == impl.HostQuota {
			exceeded++
		}
		for _, u := range h.Users {
			want := impl.HostUsed(h, u.Name)
			if u.Name == c.owner {
				want += bytes
			}
			if code == impl.HostDone && impl.HostUsed(next, u.Name) != want {
				t.Errorf("after SessionCopy(%q, %q, %v), %q has %d bytes", []any{h}, []any{s}, c, u.Name, impl.HostUsed(next, u.Name))
			}
		}
	})
	if exceeded < 20 {
		t.Errorf("the quota was exceeded %d times", exceeded)
	}
}

// Exactly the quota and one byte more; the quota is that of the owner of the other mailbox.
func TestP193AllQuotas(t *testing.T) {
	for used := 0; used <= 200; used += 7 {
		for size := range 41 {
			for _, quota := range []int{used + size - 1, used + size, used + size + 1} {
				if quota < used || quota > 200 {
					continue
				}
				box := boxOf(3, strings.Repeat("a", min(size, 20)), strings.Repeat("b", max(size-20, 0)))
				h := hostOf("amy:a1:200 bob:b2:40", impl.Queue{Next: 1}, folderOf("amy/inbox", "", boxOfSize(used)), folderOf("amy/box1", "bob=9", boxOf(1)), folderOf("bob/inbox", "", box))
				h.Users[0].Quota = quota
				want := impl.HostDone
				if used+size > quota {
					want = impl.HostQuota
				}
				if _, code := copyMail(t, h, sessionOf("bob", "bob/inbox"), setOf("*:1"), "amy", "box1"); code != want {
					t.Errorf("with %d of %d bytes, SessionCopy of %d bytes has the code %d", used, quota, size, code)
				}
			}
		}
	}
}

// allRightsBut returns the number of all rights but those whose condition holds.
func allRightsBut(holds []bool, rights ...int) string {
	left := 63
	for i, right := range rights {
		if holds[i] {
			left -= right
		}
	}
	return strconv.Itoa(left)
}

// All choices of the conditions of SessionFetch and SessionSearch: a set or a key that is none, nobody, no mailbox, not
// seen, and not read; and those of SessionSelect, which has no invalid arguments.
func TestOrderOfTheCodesOfReading(t *testing.T) {
	codes := []int{5, 1, 1, 1, 2}
	for choice := range 1 << len(codes) {
		holds := chosen(choice, len(codes))
		user, name := either(holds[1], "zed", "bob"), either(holds[2], "nobox", "box1")
		for _, given := range givenTo(allRightsBut(holds[3:], 1, 2)) {
			h := hostOf("amy:a1:60 bob:b2:20", impl.Queue{Next: 1}, folderOf("amy/box1", strings.ReplaceAll(given, "bob", user), boxOf(5, "one", "two")))
			s := impl.Session{User: user, Owner: "amy", Name: name}
			set, k := setOf("2,1"), hasKey(impl.FlagDeleted)
			if holds[0] {
				set, k = fewNotSets()[choice%len(fewNotSets())], fewBadLeaves()[choice%len(fewBadLeaves())]
			}
			want := firstOf(holds, codes)
			if lines, code := fetchLines(t, h, s, set); code != want || (code == impl.HostDone) != (len(lines) == 2) {
				t.Errorf("SessionFetch in the conditions %v is %q, %d", holds, []any{lines}, code)
			}
			if places, code := searchMail(t, h, s, k); code != want || (code == impl.HostDone) != (len(places) == 1) {
				t.Errorf("SessionSearch in the conditions %v is %v, %d", holds, places, code)
			}
			for _, before := range []string{"bob/inbox", "amy/inbox", "amy/nobox", ""} {
				if next, code := selectFolder(t, h, sessionOf(user, before), "amy", name); code != firstOf(holds[1:], codes[1:]) {
					t.Errorf("SessionSelect in the conditions %v is %q, %d", holds, []any{next}, code)
				}
			}
		}
	}
}

// All choices of the conditions of SessionStore: no set, no such change, no flags, nobody, no mailbox, not seen, not
// read, and no right to change flags.
func TestOrderOfTheCodesOfStore(t *testing.T) {
	codes := []int{5, 5, 5, 1, 1, 1, 2, 2}
	for choice := range 1 << len(codes) {
		holds := chosen(choice, len(codes))
		user, name := either(holds[3], "zed", "bob"), either(holds[4], "nobox", "box1")
		for _, given := range givenTo(allRightsBut(holds[5:], 1, 2, 4)) {
			h := hostOf("amy:a1:60 bob:b2:20", impl.Queue{Next: 1}, folderOf("amy/box1", strings.ReplaceAll(given, "bob", user), boxOf(5, "one", "two")))
			set, how, flags := setOf("2,1"), 1, 4
			if holds[0] {
				set = fewNotSets()[choice%len(fewNotSets())]
			}
			if holds[1] {
				how = 2
			}
			if holds[2] {
				flags = 36
			}
			next, code := storeFlags(t, h, impl.Session{User: user, Owner: "amy", Name: name}, set, how, flags)
			expectOrder(t, "SessionStore", holds, codes, h, next, code)
		}
	}
}

// All choices of the conditions of SessionExpunge: nobody, no mailbox, not seen, not read, and no right to remove.
func TestOrderOfTheCodesOfExpunge(t *testing.T) {
	codes := []int{1, 1, 1, 2, 2}
	for choice := range 1 << len(codes) {
		holds := chosen(choice, len(codes))
		user, name := either(holds[0], "zed", "bob"), either(holds[1], "nobox", "box1")
		for _, given := range givenTo(allRightsBut(holds[2:], 1, 2, 16)) {
			h := hostOf("amy:a1:60 bob:b2:20", impl.Queue{Next: 1}, folderOf("amy/box1", strings.ReplaceAll(given, "bob", user), boxOf(5, "one", "two")))
			next, places, code := expungeMail(t, h, impl.Session{User: user, Owner: "amy", Name: name})
			expectOrder(t, "SessionExpunge", holds, codes, h, next, code)
			if (code == impl.HostDone) != (len(places) == 1) {
				t.Errorf("SessionExpunge in the conditions %v has the places %v", holds, places)
			}
		}
	}
}

// All choices of the conditions of SessionCopy: no set, nobody, no mailbox, not seen, not read, no other mailbox, not
// seen, no right to put, the quota, MaxMail, and no number left.
func TestOrderOfTheCodesOfCopy(t *testing.T) {
	codes := []int{5, 1, 1, 1, 2, 1, 1, 2, 3, 4, 4}
	for choice := range 1 << len(codes) {
		holds := chosen(choice, len(codes))
		user, name, other := either(holds[1], "zed", "bob"), either(holds[2], "nobox", "box1"), either(holds[5], "nobox", "box2")
		from, to := givenTo(allRightsBut(holds[3:], 1, 2)), givenTo(allRightsBut(holds[6:], 1, 8))
		for i := range from {
			set, used, next, texts := setOf("2,1"), 54, 20, make([]string, 8)
			if holds[0] {
				set = fewNotSets()[choice%len(fewNotSets())]
			}
			if holds[8] {
				used += 1 + choice%6
			}
			if holds[9] {
				texts = make([]string, 9+choice%2)
			}
			if holds[10] {
				next = 99 + choice%2
			}
			// With the quota exceeded by the second message alone, there is space for the first one.
			if holds[8] && used < 58 {
				texts = texts[:min(9, len(texts))]
				next = min(next, 99)
			}
			h := hostOf("amy:a1:60 bob:b2:20 cleo:c3:60", impl.Queue{Next: 1}, folderOf("amy/box1", strings.ReplaceAll(from[i], "bob", user), boxOf(5, "one", "two")),
				folderOf("cleo/box2", strings.ReplaceAll(to[(i+choice)%3], "bob", user), boxOf(next, texts...)), folderOf("cleo/inbox", "", boxOfSize(used)))
			host, code := copyMail(t, h, impl.Session{User: user, Owner: "amy", Name: name}, set, "cleo", other)
			expectOrder(t, "SessionCopy", holds, codes, h, host, code)
		}
	}
}

// What a user may not see has no influence on what the user is shown of others.
func TestUnseenMailboxesAreNotShown(t *testing.T) {
	unseen := 0
	eachSession(func(h impl.Host, s impl.Session, n int) {
		f := h.Folders[n%len(h.Folders)]
		if hasFlag(rightsIn(f.Grants, f.Owner, s.User), 1) {
			return
		}
		unseen++
		other := withBox(h, f.Owner, f.Name, boxOf(2+n%90, ""))
		set, k := fewSets()[n%len(fewSets())], fewLeaves()[n%len(fewLeaves())]
		for _, owner := range []string{s.Owner, f.Owner} {
			a := sessionArguments{h: h, s: impl.Session{User: s.User, Owner: owner, Name: s.Name}, set: set, k: k, owner: f.Owner, name: f.Name}
			for _, name := range []string{"SessionList", "SessionSelect", "SessionFetch", "SessionSearch"} {
				x := a
				x.h = other
				if !sessionCalls[name](x).same(sessionCalls[name](a)) {
					t.Errorf("%s of %q is not the same in %q", name, []any{a}, []any{other})
				}
			}
		}
	})
	if unseen < 500 {
		t.Errorf("%d mailboxes were not seen", unseen)
	}
}

// Amy shares her inbox with bob, who reads, flags, copies and removes messages, as far as the rights go.
func TestWholeRunOfSessions(t *testing.T) {
	h := hostOf("amy:a1:60 bob:b2:20", impl.Queue{Next: 1})
	amy, _ := openSession(t, h, "amy", "a1")
	bob, _ := openSession(t, h, "bob", "b2")
	expectCode := func(want int, next impl.Host, code int) {
		t.Helper()
		if h = next; code != want || !impl.HostValid(h) {
			t.Errorf("the code is %d, not %d, for %q", code, want, []any{h})
		}
	}
	put := func(text string) {
		t.Helper()
		next, code := putMail(t, h, "amy", "amy", "inbox", 0, text)
		expectCode(0, next, code)
	}
	grant := func(rights int) {
		t.Helper()
		next, code := grantRights(t, h, "amy", "amy", "inbox", "bob", rights)
		expectCode(0, next, code)
	}
	store := func(want int, s impl.Session, set string, how int, flags int) {
		t.Helper()
		next, code := storeFlags(t, h, s, setOf(set), how, flags)
		expectCode(want, next, code)
	}
	copyTo := func(want int, s impl.Session, set string, owner string) {
		t.Helper()
		next, code := copyMail(t, h, s, setOf(set), owner, "inbox")
		expectCode(want, next, code)
	}
	expunge := func(want int, s impl.Session, gone ...int) {
		t.Helper()
		next, places, code := expungeMail(t, h, s)
		expectCode(want, next, code)
		if !slices.Equal(places, gone) {
			t.Errorf("the places are %v, not %v", places, gone)
		}
	}
	see := func(want int, owner string) {
		t.Helper()
		next, code := selectFolder(t, h, bob, owner, "inbox")
		bob = next
		expectCode(want, h, code)
	}
	put("first")
	put("second")
	put("third")
	see(1, "amy")
	copyTo(0, bob, "1:*", "bob")
	grant(impl.RightSee)
	see(2, "amy")
	grant(impl.RightSee + impl.RightRead)
	see(0, "amy")
	store(2, bob, "1", 1, impl.FlagSeen)
	expunge(2, bob)
	copyTo(0, bob, "3,1", "bob")
	copyTo(3, bob, "1:*", "bob")
	copyTo(2, bob, "1", "amy")
	grant(impl.RightsAll - impl.RightRead)
	store(2, bob, "1", 1, impl.FlagSeen)
	copyTo(2, bob, "1", "bob")
	grant(impl.RightsAll - impl.RightGrant)
	store(0, bob, "*,1", 1, impl.FlagDeleted)
	store(0, bob, "1:*", 1, impl.FlagSeen)
	copyTo(0, bob, "2:1", "amy")
	expunge(0, bob, 1, 2, 2)
	expunge(0, amy)
	if got := textsIn(h, "amy", "inbox") + " " + textsIn(h, "bob", "inbox"); got != "second|second first|third" {
		t.Errorf("the texts are %q", got)
	}
	if lines, code := fetchLines(t, h, bob, setOf("*:1")); code != impl.HostDone || !slices.Equal(lines, []impl.Line{{Place: 1, Uid: 2, Flags: 1, Text: "second"}, {Place: 2, Uid: 5, Flags: 1, Text: "second"}}) {
		t.Errorf("SessionFetch is %q, %d", []any{lines}, code)
	}
	see(0, "bob")
	expunge(0, bob)
	see(0, "amy")
	grant(0)
	copyTo(1, bob, "1", "bob")
	see(0, "bob")
	store(0, bob, "1", 0, impl.FlagDeleted)
	expunge(0, bob, 1)
	if list := listFolders(t, h, bob); len(list) != 1 || impl.HostUsed(h, "bob") != 5 || impl.HostUsed(h, "amy") != 12 {
		t.Errorf("bob sees %q in %q", []any{list}, []any{h})
	}
}

// stepSession does one of all operations of sessions, by numbers that random returns.
func stepSession(t *testing.T, h impl.Host, random func(n int) int) (impl.Host, int) {
	t.Helper()
	list, paths := sessionsOf(h), hostPaths(h)
	s := list[random(len(list))]
	if user := h.Users[random(len(h.Users))].Name; random(2) == 0 {
		s = impl.Session{User: user, Owner: user, Name: "inbox"}
	}
	set, path := setFor(random(200)), paths[random(len(paths))]
	switch random(5) {
	case 0:
		return storeFlags(t, h, s, set, random(4)-1, random(33))
	case 1:
		next, _, code := expungeMail(t, h, s)
		return next, code
	case 2:
		lines, code := fetchLines(t, h, s, set)
		if list := listFolders(t, h, s); code == impl.HostDone && len(lines) > 0 && len(list) == 0 {
			t.Errorf("SessionList(%q, %q) is empty", []any{h}, []any{s})
		}
		return h, code
	}
	return copyMail(t, h, s, set, path[0], path[1])
}

// expectNumbersKept checks that each message whose number had been given before is still the same one, and that
// nobody exceeds the quota.
func expectNumbersKept(t *testing.T, h impl.Host, next impl.Host) {
	t.Helper()
	for _, f := range h.Folders {
		after, ok := folderNamed(next, f.Owner, f.Name)
		if !ok || after.Box.Next < f.Box.Next {
			t.Errorf("after %q, the mailbox %q is %q", []any{h}, pathOf(f), []any{after})
		}
		for _, m := range after.Box.Mail {
			if m.Uid < f.Box.Next && !slices.ContainsFunc(f.Box.Mail, func(other impl.Mail) bool { return other.Uid == m.Uid && other.Text == m.Text }) {
				t.Errorf("after %q, the number of %q in %q is given again", []any{h}, []any{m}, pathOf(f))
			}
		}
	}
	for _, u := range next.Users {
		if used := impl.HostUsed(next, u.Name); used < 0 || used > u.Quota {
			t.Errorf("after %q, %q has %d bytes", []any{h}, u.Name, used)
		}
	}
}

// Long runs of all operations of hosts and sessions.
func TestLongRunsOfSessions(t *testing.T) {
	state := 1
	random := func(n int) int {
		state = (state*75 + 74) % 65537
		return state / 3 % n
	}
	seen := map[int]int{}
	for _, first := range slices.Concat(fewHosts(), hostsOfUsers()[:5], readHosts()[:6]) {
		h := first
		for range 300 {
			next, code := stepSession(t, h, random)
			seen[code]++
			if code == impl.HostInvalid || code == impl.HostDone && !sameQueue(next.Queue, h.Queue) {
				next = h
			}
			expectNumbersKept(t, h, next)
			if then, code, _ := stepHost(t, next, random); code != impl.HostInvalid && random(3) > 0 {
				next = then
			}
			h = next
		}
		if !slices.Equal(h.Users, first.Users) || h.Domain != first.Domain {
			t.Errorf("%q becomes %q", []any{first}, []any{h})
		}
	}
	expectCodes(t, seen, 0, 1, 2, 3, 4, 5)
}

func (a sessionArguments) roomy() sessionArguments {
	a.h, a.set, a.k = roomyHost(a.h), roomy(a.set, impl.Span{Low: 77, High: 7}), roomyKey(a.k)
	return a
}

// keep returns a copy of all arguments, and of all that lies within their capacity.
func (a sessionArguments) keep() sessionArguments {
	a.h, a.set, a.k = wholeHost(a.h), slices.Clone(whole(a.set)), wholeKey(a.k)
	return a
}

// isAs reports whether the arguments, and all that lies within their capacity, are as they were kept.
func (a sessionArguments) isAs(kept sessionArguments) bool {
	now := a.keep()
	return sameHost(now.h, kept.h) && slices.Equal(now.set, kept.set) && sameKey(now.k, kept.k)
}

// overwrite changes all that lies within the capacity of the arguments.
func (a sessionArguments) overwrite() {
	overwriteHost(a.h)
	overwriteKey(impl.Key{Set: a.set})
	overwriteKey(a.k)
}

func (r sessionResults) clone() sessionResults {
	r.h, r.folders, r.lines, r.places = hostClone(r.h), slices.Clone(r.folders), slices.Clone(r.lines), slices.Clone(r.places)
	for i, f := range r.folders {
		r.folders[i] = folderClone(f)
	}
	return r
}

// overwrite changes all that lies within the capacity of the results.
func (r sessionResults) overwrite() {
	overwriteHost(r.h)
	overwriteHost(impl.Host{Folders: r.folders})
	boxResults{list: r.places}.overwrite()
	for i := range whole(r.lines) {
		whole(r.lines)[i] = impl.Line{Place: -1, Uid: -1, Flags: -1, Text: "overwritten"}
	}
}

// sessionArgumentLists have sessions of each user of a few hosts, in the own inbox and in other mailboxes, and of
// others; and invalid hosts, sets and keys.
func sessionArgumentLists() []sessionArguments {
	var list []sessionArguments
	all := memoryKeys()
	for i, h := range slices.Concat(fewHosts(), hostsOfBoxes()[:5], readHosts()[10:16], fewNotHosts()) {
		users := hostNames(h)[2:]
		if !isHost(h) {
			users = []string{"amy"}
		}
		for j, user := range users {
			a := sessionArguments{h: h, s: sessionOf(user, user+"/inbox"), set: setFor(13*i + j), k: all[(7*i+j)%len(all)], owner: user, name: "inbox"}
			list = append(list, a)
			if len(h.Folders) > 0 {
				f, other := h.Folders[(i+j)%len(h.Folders)], h.Folders[(i+2*j)%len(h.Folders)]
				list = append(list, sessionArguments{h: h, s: sessionOf(user, pathOf(f)), set: setFor(13*i + j + 6), k: all[(5*i+3*j)%len(all)], owner: other.Owner, name: other.Name})
			}
		}
	}
	return list
}

func TestSessionsKeepTheirMemory(t *testing.T) {
	list := sessionArgumentLists()
	for name, call := range sessionCalls {
		for _, plain := range list {
			a := plain.roomy()
			before := a.keep()
			first, second := call(a), call(a)
			want := second.clone()
			if !first.same(second) || !a.isAs(before) {
				t.Errorf("%s changed its arguments %.900q", name, []any{plain})
			}
			first.overwrite()
			if !second.same(want) || !a.isAs(before) {
				t.Errorf("a result of %s shares memory with the arguments %.900q or with another result", name, []any{plain})
			}
			a.overwrite()
			if !second.same(want) {
				t.Errorf("a result of %s changes with the arguments %.900q", name, []any{plain})
			}
		}
	}
}

func TestPartsOfSessionsShareNoMemory(t *testing.T) {
	list := sessionArgumentLists()
	for _, user := range []string{"amy", "bob"} {
		list = append(list, sessionArguments{h: sharedHost(), s: sessionOf(user, "amy/box1"), set: setOf("1:*"), k: allKey(), owner: "bob", name: "box2"})
	}
	for name, call := range sessionCalls {
		for _, a := range list {
			r := call(a)
			if haveSharedParts(r.h) || haveSharedParts(impl.Host{Folders: r.folders}) {
				t.Errorf("the parts of a result of %s for %.900q share memory", name, []any{a})
			}
		}
	}
}

func TestSessionsOfNilAndEmptySlices(t *testing.T) {
	list := sessionArgumentLists()
	for _, h := range []impl.Host{{}, {Domain: "org", Queue: impl.Queue{Next: 1}}, hostOf("amy:a1:60", impl.Queue{Next: 1}), withQueue(town(), impl.Queue{Next: 9})} {
		list = append(list, ofAmy(h), sessionArguments{h: h, s: sessionOf("amy", "amy/inbox"), owner: "amy", name: "inbox"})
	}
	for name, call := range sessionCalls {
		for _, a := range list {
			x := a
			x.h, x.set, x.k = emptied(a.h, 0), emptyOf(a.set, 0), withEmptyLists(a.k, nil, nil)
			want := call(x)
			for kind := 1; kind < 4; kind++ {
				x.h, x.set, x.k = emptied(a.h, kind), emptyOf(a.set, kind), withEmptyLists(a.k, emptyOf([]impl.Span{}, kind), emptyOf([]impl.Key{}, kind))
				if r := call(x); !r.same(want) {
					t.Errorf("%s of %.900q is not the same with empty lists: %.900q", name, []any{a}, []any{r})
				}
			}
		}
	}
}

// The bubble of synctest ends only if no goroutine that was begun in it is left over.
func TestGoroutinesOfSessionsAreJoined(t *testing.T) {
	list := sessionArgumentLists()
	before := runtime.NumGoroutine()
	synctest.Test(t, func(t *testing.T) {
		for _, call := range sessionCalls {
			for _, a := range list {
				call(a)
			}
		}
	})
	expectGoroutines(t, before)
}

// Calls at the same time have the same results; the race detector shows whether they write what they are given.
func TestSessionsAtTheSameTime(t *testing.T) {
	var all sync.WaitGroup
	for _, h := range []impl.Host{town(), sharedHost(), fewNotHosts()[3]} {
		for name, call := range sessionCalls {
			for _, user := range []string{"amy", "bob"} {
				a := ofAmy(h)
				a.s = sessionOf(user, "amy/box1")
				want := call(a)
				for range 4 {
					all.Go(func() {
						if r := call(a); !r.same(want) {
							t.Errorf("%s at the same time as others is %.900q", name, []any{r})
						}
					})
				}
			}
		}
	}
	all.Wait()
}
