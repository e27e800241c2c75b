package tests

import (
	"math"
	"math/rand/v2"
	"runtime"
	"slices"
	"strconv"
	"strings"
	"sync"
	"testing"
	"testing/synctest"

	"loop.example/mailhost/impl"
)

// A second definition of runs, against which the program is held, by the second definitions of hosts and sessions.

// happened is a second definition of HostDo.
func happened(h impl.Host, e impl.Event) (impl.Host, int) {
	if !isHost(h) {
		return impl.Host{}, 5
	}
	s, message := impl.Session{User: e.By, Owner: e.Owner, Name: e.Name}, []impl.Span{{Low: e.A, High: e.A}}
	next, code := h, 5
	switch e.Kind {
	case 1:
		next, code = withCreated(h, e.By, e.Name)
	case 2:
		next, code = withGranted(h, e.By, e.Owner, e.Name, e.To, e.A)
	case 3:
		next, code = withPutIn(h, e.By, e.Owner, e.Name, e.A, e.Text)
	case 4:
		next, code = withSubmitted(h, impl.Letter{From: e.By, To: []string{e.To}, Text: e.Text})
	case 5:
		next, code = withDelivered(h, e.A, e.To)
	case 6:
		next, code = withStored(h, s, message, 1, e.B)
	case 7:
		next, _, code = withExpunged(h, s)
	case 8:
		next, code = withCopied(h, s, message, e.To, "inbox")
	}
	if code == 5 {
		return h, code
	}
	return next, code
}

// played is a second definition of HostPlay.
func played(h impl.Host, events []impl.Event) (impl.Host, bool) {
	if !isHost(h) || len(events) > 60 {
		return impl.Host{}, false
	}
	for _, e := range events {
		h, _ = happened(h, e)
	}
	return h, true
}

// viewed is a second definition of HostView.
func viewed(h impl.Host, user string) []impl.Folder {
	if !isHost(h) || !isCalled(h.Users, user) {
		return nil
	}
	var list []impl.Folder
	for _, f := range h.Folders {
		if rights := rightsIn(f.Grants, f.Owner, user); hasFlag(rights, 1) && hasFlag(rights, 2) {
			list = append(list, impl.Folder{Owner: f.Owner, Name: f.Name, Box: f.Box})
		}
	}
	return list
}

// createEvent returns an event of a kind with the fields that this kind uses; so do the next functions for others. The
// path of a mailbox is a text such as "amy/box1".
func createEvent(by string, name string) impl.Event {
	return impl.Event{Kind: impl.EvCreate, By: by, Name: name}
}

func grantEvent(by string, path string, to string, rights int) impl.Event {
	owner, name, _ := strings.Cut(path, "/")
	return impl.Event{Kind: impl.EvGrant, By: by, Owner: owner, Name: name, To: to, A: rights}
}

func putEvent(by string, path string, flags int, text string) impl.Event {
	owner, name, _ := strings.Cut(path, "/")
	return impl.Event{Kind: impl.EvPut, By: by, Owner: owner, Name: name, Text: text, A: flags}
}

func submitEvent(by string, to string, text string) impl.Event {
	return impl.Event{Kind: impl.EvSubmit, By: by, To: to, Text: text}
}

func deliverEvent(id int, to string) impl.Event {
	return impl.Event{Kind: impl.EvDeliver, To: to, A: id}
}

func storeEvent(by string, path string, place int, flags int) impl.Event {
	owner, name, _ := strings.Cut(path, "/")
	return impl.Event{Kind: impl.EvStore, By: by, Owner: owner, Name: name, A: place, B: flags}
}

func expungeEvent(by string, path string) impl.Event {
	owner, name, _ := strings.Cut(path, "/")
	return impl.Event{Kind: impl.EvExpunge, By: by, Owner: owner, Name: name}
}

func copyEvent(by string, path string, place int, to string) impl.Event {
	owner, name, _ := strings.Cut(path, "/")
	return impl.Event{Kind: impl.EvCopy, By: by, Owner: owner, Name: name, To: to, A: place}
}

// withOthers returns an event whose fields are those of another one where its kind does not use them.
func withOthers(e impl.Event, other impl.Event) impl.Event {
	other.Kind = e.Kind
	switch e.Kind {
	case impl.EvCreate:
		other.By, other.Name = e.By, e.Name
	case impl.EvGrant:
		other.By, other.Owner, other.Name, other.To, other.A = e.By, e.Owner, e.Name, e.To, e.A
	case impl.EvPut:
		other.By, other.Owner, other.Name, other.Text, other.A = e.By, e.Owner, e.Name, e.Text, e.A
	case impl.EvSubmit:
		other.By, other.To, other.Text = e.By, e.To, e.Text
	case impl.EvDeliver:
		other.To, other.A = e.To, e.A
	case impl.EvStore:
		other.By, other.Owner, other.Name, other.A, other.B = e.By, e.Owner, e.Name, e.A, e.B
	case impl.EvExpunge:
		other.By, other.Owner, other.Name = e.By, e.Owner, e.Name
	case impl.EvCopy:
		other.By, other.Owner, other.Name, other.To, other.A = e.By, e.Owner, e.Name, e.To, e.A
	}
	return other
}

// oneOf returns an element of a list that random chooses.
func oneOf[T any](random func(n int) int, list ...T) T {
	return list[random(len(list))]
}

// someEvents returns an event of each kind by a user in a mailbox, with numbers, texts and other users that random
// chooses.
func someEvents(h impl.Host, by string, path string, random func(n int) int) []impl.Event {
	names := append(hostNames(h), hostNames(h)[3:]...)
	to, place := oneOf(random, names...), oneOf(random, 0, 1, 1, 2, 3, 9, 10, 11, 99, -1, 100)
	flags, text := oneOf(random, 0, 1, 8, 8, 31, 5, 32, -1), oneOf(random, "", "a", "hello\n", "é, 12 bytes.", strings.Repeat("y", 20), strings.Repeat("y", 21))
	return []impl.Event{
		createEvent(by, oneOf(random, "inbox", "box1", "a", "zzzzzzzz", "0", "", "Box", "abcdefghi")),
		grantEvent(by, path, to, oneOf(random, 0, 1, 2, 3, 9, 11, 33, 63, 63, 64, -1)),
		putEvent(by, path, flags, text),
		submitEvent(by, to, text),
		deliverEvent(oneOf(random, append(idsOf(h.Queue), 0, h.Queue.Next, h.Queue.Next-1)...), oneOf(random, by, to)),
		storeEvent(by, path, place, flags),
		expungeEvent(by, path),
		copyEvent(by, path, place, oneOf(random, by, to)),
	}
}

// someEvent returns an event that random chooses, by the owner of the mailbox or by anyone else, and of no kind at times.
func someEvent(h impl.Host, random func(n int) int) impl.Event {
	path := oneOf(random, hostPaths(h)[2:]...)
	by := oneOf(random, path[0], oneOf(random, hostNames(h)[2:]...))
	list := append(someEvents(h, by, path[0]+"/"+path[1], random), submitEvent(by, path[0], "x"), impl.Event{Kind: oneOf(random, 0, 9, -1), By: by})
	for _, c := range copiesOf(h.Queue) {
		list = append(list, deliverEvent(c.id, c.user))
	}
	return oneOf(random, list...)
}

// happening is an event in a host, and what HostDo returns.
type happening struct {
	h    impl.Host
	e    impl.Event
	next impl.Host
	code int
}

// happenings has events of all kinds in a few hosts, by all users and others and in all mailboxes and others, and all
// events of runs. The list is made once, and only read.
var happenings = sync.OnceValue(func() []happening {
	var list []happening
	add := func(h impl.Host, e impl.Event) impl.Host {
		next, code := impl.HostDo(h, e)
		list = append(list, happening{h, e, next, code})
		return next
	}
	random := rand.New(rand.NewPCG(1, 41)).IntN
	for _, h := range slices.Concat(fewHosts(), hostsOfBoxes()[:4], readHosts()[:6], rightsHosts()[120:130]) {
		for _, path := range hostPaths(h) {
			for _, by := range hostNames(h) {
				for _, e := range slices.Concat(someEvents(h, by, path[0]+"/"+path[1], random), someEvents(h, by, path[0]+"/"+path[1], random)) {
					add(h, e)
				}
			}
		}
	}
	for _, h := range hostsOfRuns() {
		for range 250 {
			h = add(h, someEvent(h, random))
		}
	}
	return list
})

// hostsOfRuns are those in which runs begin.
func hostsOfRuns() []impl.Host {
	return slices.Concat(fewHosts(), hostsOfUsers()[:6], readHosts()[:4])
}

// run is a list of events with the host in which it begins.
type run struct {
	h      impl.Host
	events []impl.Event
}

// hostRuns are of at most MaxPlay events, each of which is chosen for the host to which those ahead of it lead.
func hostRuns() []run {
	random := rand.New(rand.NewPCG(2, 41)).IntN
	var list []run
	for i, h := range hostsOfRuns() {
		for _, count := range []int{0, 1, 2, 3, 5 + i, 59, 60} {
			r, at := run{h: h}, h
			for range count {
				e := someEvent(at, random)
				r.events = append(r.events, e)
				at, _ = happened(at, e)
			}
			list = append(list, r)
		}
	}
	return list
}

// eachDone calls check with all happenings of some kinds that have another code than HostInvalid.
func eachDone(check func(x happening), kinds ...int) {
	for _, x := range happenings() {
		if x.code != impl.HostInvalid && slices.Contains(kinds, x.e.Kind) {
			check(x)
		}
	}
}

// expectDo checks what HostDo returns.
func expectDo(t *testing.T, h impl.Host, e impl.Event, want impl.Host, wanted int) {
	t.Helper()
	next, code := impl.HostDo(h, e)
	if code != wanted || !sameHost(next, want) {
		t.Errorf("HostDo(%.900q, %q) is %.900q, %d, not %.900q, %d", []any{h}, []any{e}, []any{next}, code, []any{want}, wanted)
	}
}

func TestConstantsOfRuns(t *testing.T) {
	kinds := []int{impl.EvCreate, impl.EvGrant, impl.EvPut, impl.EvSubmit, impl.EvDeliver, impl.EvStore, impl.EvExpunge, impl.EvCopy}
	if impl.MaxPlay != 60 || !slices.Equal(kinds, []int{1, 2, 3, 4, 5, 6, 7, 8}) {
		t.Errorf("the limit is %d, and the kinds are %v", impl.MaxPlay, kinds)
	}
}

// Every kind of event has been seen with every code that its function returns.
func TestEventsOfAllKinds(t *testing.T) {
	seen := map[int]map[int]int{}
	for _, x := range happenings() {
		want, wanted := happened(x.h, x.e)
		expectHost(t, x.next, x.code, want, wanted, "HostDo", x.e, x.h)
		if seen[x.e.Kind] == nil {
			seen[x.e.Kind] = map[int]int{}
		}
		seen[x.e.Kind][x.code]++
	}
	for kind, codes := range map[int][]int{impl.EvCreate: {0, 1, 4, 5}, impl.EvGrant: {0, 1, 2, 4, 5}, impl.EvPut: {0, 1, 2, 3, 4, 5}, impl.EvSubmit: {0, 1, 4, 5}, impl.EvDeliver: {0, 1, 3, 4}, impl.EvStore: {0, 1, 2, 5}, impl.EvExpunge: {0, 1, 2}, impl.EvCopy: {0, 1, 2, 3, 4, 5}, 0: {5}, 9: {5}, -1: {5}} {
		expectCodes(t, seen[kind], codes...)
		delete(seen, kind)
	}
	if len(seen) > 0 {
		t.Errorf("other kinds were seen: %v", seen)
	}
}

// townEvents has events of each kind in the town, by the number of their code.
func townEvents() map[int][]impl.Event {
	return map[int][]impl.Event{
		impl.HostDone: {
			createEvent("bob", "box1"), createEvent("dan", "anyone"), grantEvent("amy", "amy/inbox", "bob", 3), grantEvent("cleo", "bob/inbox", "anyone", 63), grantEvent("amy", "bob/inbox", "amy", 0), grantEvent("dan", "dan/inbox", "dan", 1),
			putEvent("bob", "amy/box1", 0, "hi"), putEvent("amy", "amy/inbox", 31, strings.Repeat("é", 10)), putEvent("dan", "dan/inbox", 8, ""), submitEvent("amy", "bob", "hi"), submitEvent("dan", "dan", ""), submitEvent("bob", "amy", strings.Repeat("x", 20)),
			deliverEvent(3, "bob"), deliverEvent(7, "amy"), deliverEvent(20, "amy"), deliverEvent(41, "dan"), storeEvent("amy", "amy/box1", 2, 8), storeEvent("amy", "bob/inbox", 0, 31), storeEvent("cleo", "cleo/archive", 1, 0), storeEvent("dan", "dan/inbox", 99, 1),
			expungeEvent("amy", "amy/inbox"), expungeEvent("amy", "bob/inbox"), expungeEvent("dan", "dan/inbox"), copyEvent("amy", "amy/inbox", 1, "amy"), copyEvent("bob", "amy/box1", 2, "bob"), copyEvent("amy", "amy/box1", 2, "bob"), copyEvent("bob", "amy/box1", 2, "dan"), copyEvent("cleo", "cleo/inbox", 11, "cleo"),
		},
		impl.HostNone: {
			createEvent("zed", "box1"), createEvent("anyone", "inbox"), createEvent("", "a"), grantEvent("bob", "amy/inbox", "bob", 3), grantEvent("amy", "amy/box2", "bob", 3), grantEvent("amy", "amy/inbox", "zed", 3), grantEvent("amy", "amy/inbox", "", 3), grantEvent("zed", "amy/inbox", "amy", 3),
			putEvent("zed", "zed/inbox", 0, ""), putEvent("bob", "cleo/archive", 0, ""), putEvent("anyone", "amy/box1", 0, ""), submitEvent("amy", "zed", ""), submitEvent("zed", "amy", ""), submitEvent("amy", "anyone", ""),
			deliverEvent(0, "bob"), deliverEvent(3, "amy"), deliverEvent(42, "amy"), deliverEvent(-3, "bob"), deliverEvent(20, "zed"), deliverEvent(20, ""), storeEvent("bob", "amy/inbox", 1, 1), storeEvent("amy", "/", 1, 1), storeEvent("dan", "zed/inbox", 0, 0),
			expungeEvent("bob", "amy/inbox"), expungeEvent("", "amy/box1"), expungeEvent("amy", "amy/"), copyEvent("bob", "cleo/archive", 1, "bob"), copyEvent("bob", "amy/box1", 1, "zed"), copyEvent("amy", "amy/box1", 1, "anyone"), copyEvent("bob", "amy/box1", 1, "amy"), copyEvent("zed", "amy/box1", 1, "amy"),
		},
		impl.HostRights: {
			grantEvent("bob", "amy/box1", "bob", 3), grantEvent("amy", "cleo/inbox", "amy", 3), putEvent("cleo", "amy/box1", 0, ""), putEvent("cleo", "bob/inbox", 0, ""), storeEvent("bob", "amy/box1", 1, 1), storeEvent("bob", "dan/inbox", 1, 1), storeEvent("cleo", "bob/inbox", 1, 1), expungeEvent("bob", "amy/box1"), expungeEvent("amy", "cleo/inbox"), copyEvent("bob", "dan/inbox", 1, "bob"), copyEvent("cleo", "bob/inbox", 1, "zed"),
		},
		impl.HostQuota: {putEvent("bob", "bob/inbox", 0, "1234"), putEvent("dan", "dan/inbox", 0, "1"), putEvent("amy", "bob/inbox", 0, "1234"), deliverEvent(20, "dan"), deliverEvent(20, "bob"), copyEvent("amy", "amy/box1", 1, "bob"), copyEvent("bob", "amy/box1", 0, "bob"), copyEvent("bob", "amy/box1", 1, "dan")},
		impl.HostFull:  {createEvent("amy", "box1"), createEvent("amy", "inbox"), putEvent("cleo", "cleo/inbox", 0, ""), putEvent("amy", "cleo/inbox", 31, "x"), putEvent("cleo", "cleo/archive", 0, ""), deliverEvent(3, "cleo"), deliverEvent(41, "cleo"), copyEvent("amy", "amy/box1", 2, "cleo"), copyEvent("cleo", "cleo/inbox", 0, "cleo")},
		impl.HostInvalid: {
			createEvent("amy", ""), createEvent("zed", "Box"), createEvent("amy", "abcdefghi"), createEvent("amy", "a b"), grantEvent("amy", "amy/inbox", "bob", 64), grantEvent("amy", "amy/inbox", "bob", -1), grantEvent("zed", "amy/nobox", "zed", math.MaxInt), grantEvent("bob", "amy/inbox", "bob", math.MinInt),
			putEvent("amy", "amy/inbox", 32, ""), putEvent("amy", "amy/inbox", -1, ""), putEvent("amy", "amy/inbox", 0, strings.Repeat("x", 21)), putEvent("zed", "zed/inbox", 32, ""), putEvent("dan", "dan/inbox", 0, strings.Repeat("é", 11)), putEvent("amy", "cleo/inbox", 1<<32, ""),
			submitEvent("amy", "", ""), submitEvent("", "amy", ""), submitEvent("amy", "bob", strings.Repeat("x", 21)), submitEvent("zed", "Bob", ""), submitEvent("amy", "abcdefghi", ""), submitEvent("amy", "bob cleo", ""), submitEvent("amy@host.org", "bob", ""),
			storeEvent("amy", "amy/box1", -1, 1), storeEvent("amy", "amy/box1", 100, 1), storeEvent("amy", "amy/box1", 1, 32), storeEvent("amy", "amy/box1", 1, -1), storeEvent("zed", "amy/nobox", math.MinInt, 0), storeEvent("bob", "amy/box1", math.MaxInt, 0), storeEvent("bob", "amy/inbox", 1<<32, 1),
			copyEvent("amy", "amy/box1", -1, "amy"), copyEvent("amy", "amy/box1", 100, "amy"), copyEvent("zed", "amy/nobox", 101, "zed"), copyEvent("bob", "dan/inbox", math.MinInt, "cleo"), copyEvent("cleo", "amy/box1", math.MaxInt, "cleo"), {}, {Kind: 9, By: "amy", Name: "box2"}, {Kind: -1}, {Kind: 99, By: "zed"},
		},
	}
}

func TestEventsOfTheTown(t *testing.T) {
	for want, events := range townEvents() {
		for _, e := range events {
			next, code := impl.HostDo(town(), e)
			if code != want || want != impl.HostDone && want != impl.HostQuota && !sameHost(next, town()) {
				t.Errorf("HostDo of %q is %q, %d, not %d", []any{e}, []any{next}, code, want)
			}
			second, wanted := happened(town(), e)
			expectHost(t, next, code, second, wanted, "HostDo", e)
		}
	}
}

// Kinds that are none, some of which end with the bits of others, with the fields of events that are done.
func TestOtherKindsOfEvents(t *testing.T) {
	for _, h := range append(fewHosts()[:6], fewNotHosts()...) {
		want, _ := impl.HostPlay(h, nil)
		for _, kind := range []int{0, 9, -1, 10, -8, 99, 256, 257, 264, 1<<16 + 3, 1<<32 + 1, 1<<32 + 8, -1<<32 + 5, math.MaxInt, math.MinInt, math.MinInt + 1} {
			for _, e := range townEvents()[impl.HostDone] {
				e.Kind = kind
				expectDo(t, h, e, want, impl.HostInvalid)
			}
		}
	}
}

// The fields that a kind does not use may have any values.
func TestFieldsThatAreNotUsed(t *testing.T) {
	others := []impl.Event{{}, {By: "amy", Owner: "bob", Name: "inbox", To: "amy", Text: "other", A: 1, B: 8}, {By: "zed", Owner: "No", Name: "No box", To: "\x00", Text: strings.Repeat("long", 99), A: -1, B: math.MinInt}, {By: "bob", Owner: "amy", Name: "box1", To: "bob", Text: "\n", A: 3, B: 99}}
	for i, x := range happenings() {
		for j, other := range others {
			if e := withOthers(x.e, other); (i+j)%3 == 0 {
				expectDo(t, x.h, e, x.next, x.code)
			}
		}
	}
	for want, events := range townEvents() {
		for _, e := range events {
			for _, other := range others {
				if _, code := impl.HostDo(town(), withOthers(e, other)); code != want {
					t.Errorf("HostDo of %q is %d, not %d", []any{withOthers(e, other)}, code, want)
				}
			}
		}
	}
}

// An invalid host is refused by all functions, whatever else is wrong.
func TestRunsOfInvalidHosts(t *testing.T) {
	events := []impl.Event{{}, {Kind: 9}, {Kind: -1}}
	for code, list := range townEvents() {
		events = append(events, list[0], list[len(list)-1-code%2])
	}
	for _, h := range notHosts() {
		for _, e := range events {
			expectDo(t, h, e, impl.Host{}, impl.HostInvalid)
		}
		for _, list := range [][]impl.Event{nil, {}, events, {{}}, make([]impl.Event, 60), make([]impl.Event, 61)} {
			if next, ok := impl.HostPlay(h, list); ok || !sameHost(next, impl.Host{}) {
				t.Errorf("HostPlay(%.900q, %q) is %.900q, %v", []any{h}, []any{list}, []any{next}, ok)
			}
		}
		for _, user := range []string{"amy", "bob", "cleo", "anyone", "zed", ""} {
			if view := impl.HostView(h, user); len(view) != 0 {
				t.Errorf("HostView(%.900q, %q) is %.900q", []any{h}, user, []any{view})
			}
		}
	}
}

func TestP194HostsAfterEvents(t *testing.T) {
	for _, x := range happenings() {
		if !impl.HostValid(x.next) || !slices.Equal(x.next.Users, x.h.Users) || x.next.Domain != x.h.Domain {
			t.Errorf("HostDo(%q, %q) is %q", []any{x.h}, []any{x.e}, []any{x.next})
		}
	}
}

func TestP195EventsThatAreRefused(t *testing.T) {
	lost := 0
	for _, x := range happenings() {
		switch {
		case x.code == impl.HostDone:
		case x.code == impl.HostQuota && x.e.Kind == impl.EvDeliver:
			lost++
			if queue, _, ok := impl.QueueTake(x.h.Queue, x.e.A, x.e.To); !ok || !sameHost(x.next, withQueue(x.h, queue)) {
				t.Errorf("HostDo(%q, %q) is %q, and loses more than a copy", []any{x.h}, []any{x.e}, []any{x.next})
			}
		case !sameHost(x.next, x.h):
			t.Errorf("HostDo(%q, %q) is %q, %d", []any{x.h}, []any{x.e}, []any{x.next}, x.code)
		}
	}
	if lost < 20 {
		t.Errorf("%d copies were lost", lost)
	}
}

// Each number that is none, where the event would be done with another one, and where it would be refused.
func TestP195NumbersThatAreNone(t *testing.T) {
	h := rightsHost(15, 0)
	for _, n := range []int{-1, -2, -99, -100, 100, 101, 128, 256, 257, 355, 1 << 16, 1<<32 + 1, 1<<32 - 1, -1 << 32, math.MaxInt, math.MinInt, math.MinInt + 1} {
		for _, by := range []string{"bob", "amy", "cleo", "zed", ""} {
			for _, path := range []string{"amy/box1", "amy/inbox", "amy/nobox", "zed/inbox"} {
				for _, e := range []impl.Event{grantEvent(by, path, "bob", n), putEvent(by, path, n, ""), storeEvent(by, path, n, 1), storeEvent(by, path, 1, n), storeEvent(by, path, n, n), copyEvent(by, path, n, "bob"), copyEvent(by, path, n, "zed")} {
					expectDo(t, h, e, h, impl.HostInvalid)
				}
			}
		}
		expectDo(t, h, deliverEvent(n, "amy"), h, impl.HostNone)
	}
}

func TestP196EventsOfHosts(t *testing.T) {
	functions := map[int]func(h impl.Host, e impl.Event) (impl.Host, int){
		impl.EvCreate: func(h impl.Host, e impl.Event) (impl.Host, int) { return impl.HostCreate(h, e.By, e.Name) },
		impl.EvGrant: func(h impl.Host, e impl.Event) (impl.Host, int) {
			return impl.HostGrant(h, e.By, e.Owner, e.Name, e.To, e.A)
		},
		impl.EvPut: func(h impl.Host, e impl.Event) (impl.Host, int) {
			return impl.HostPut(h, e.By, e.Owner, e.Name, e.A, e.Text)
		},
		impl.EvDeliver: func(h impl.Host, e impl.Event) (impl.Host, int) { return impl.HostDeliver(h, e.A, e.To) },
		impl.EvSubmit: func(h impl.Host, e impl.Event) (impl.Host, int) {
			return impl.HostSubmit(h, impl.Letter{From: e.By, To: []string{e.To}, Text: e.Text})
		},
	}
	for kind, function := range functions {
		seen := map[int]int{}
		eachDone(func(x happening) {
			seen[x.code]++
			next, code := function(x.h, x.e)
			if code != x.code || !sameHost(next, x.next) {
				t.Errorf("HostDo(%q, %q) is %q, %d, and its function has the code %d", []any{x.h}, []any{x.e}, []any{x.next}, x.code, code)
			}
		}, kind)
		if len(seen) < 3 || seen[impl.HostDone] < 50 {
			t.Errorf("events of the kind %d had the codes %v", kind, seen)
		}
	}
}

func TestP196Letters(t *testing.T) {
	for _, by := range []string{"amy", "bob", "cleo", "zed", "anyone"} {
		for _, to := range []string{"amy", "bob", "cleo", "zed", "anyone"} {
			h := hostOf("amy:a1:60 bob:b2:20 cleo:c3:5", manyItems(42, 4))
			next, code := impl.HostDo(h, submitEvent(by, to, "hello"))
			if known := isCalled(h.Users, by) && isCalled(h.Users, to); known != (code == impl.HostDone) || !known && (code != impl.HostNone || !sameHost(next, h)) {
				t.Errorf("EvSubmit from %q to %q is %q, %d", by, to, []any{next}, code)
			}
			if code == impl.HostDone && (len(next.Queue.Items) != 5 || next.Queue.Next != 43 || !sameItem(next.Queue.Items[4], itemOf(42, by, to, "hello"))) {
				t.Errorf("EvSubmit from %q to %q leads to %q", by, to, []any{next})
			}
		}
	}
}

func TestP197EventsOfSessions(t *testing.T) {
	for _, kind := range []int{impl.EvStore, impl.EvExpunge, impl.EvCopy} {
		seen := map[int]int{}
		eachDone(func(x happening) {
			s, message := impl.Session{User: x.e.By, Owner: x.e.Owner, Name: x.e.Name}, []impl.Span{{Low: x.e.A, High: x.e.A}}
			next, code := impl.SessionStore(x.h, s, message, 1, x.e.B)
			if kind == impl.EvExpunge {
				next, _, code = impl.SessionExpunge(x.h, s)
			}
			if kind == impl.EvCopy {
				next, code = impl.SessionCopy(x.h, s, message, x.e.To, impl.Inbox)
			}
			seen[x.code]++
			if code != x.code || !sameHost(next, x.next) {
				t.Errorf("HostDo(%q, %q) is %q, %d, and its function has the code %d", []any{x.h}, []any{x.e}, []any{x.next}, x.code, code)
			}
		}, kind)
		if len(seen) < 3 || seen[impl.HostDone] < 50 {
			t.Errorf("events of the kind %d had the codes %v", kind, seen)
		}
	}
}

// All numbers of messages in mailboxes of each size: 0 stands for the last message, and behind it there is none.
func TestP197NumbersOfMessages(t *testing.T) {
	for count := range 11 {
		texts := strings.Split("a,b,c,d,e,f,g,h,i,j", ",")[:count]
		h := hostOf("amy:a1:60 bob:b2:20", impl.Queue{Next: 1}, folderOf("amy/box1", "bob=7", boxOf(50, texts...)))
		for n := -3; n <= 103; n++ {
			place := n
			if n == 0 {
				place = count
			}
			stored, inbox, code := boxOf(50, texts...), boxOf(1), impl.HostDone
			if place >= 1 && place <= count {
				m := stored.Mail[place-1]
				inbox = impl.Box{Next: 2, Mail: []impl.Mail{{Uid: 1, Flags: m.Flags, Text: m.Text}}}
				stored.Mail[place-1].Flags = changed(m.Flags, 1, 5)
			}
			if n < 0 || n > 99 {
				code = impl.HostInvalid
			}
			for _, by := range []string{"amy", "bob"} {
				expectDo(t, h, storeEvent(by, "amy/box1", n, 5), withBox(h, "amy", "box1", stored), code)
				expectDo(t, h, copyEvent(by, "amy/box1", n, by), withBox(h, by, "inbox", inbox), code)
			}
		}
	}
}

// EvStore sets flags, and takes none away.
func TestP197AllFlags(t *testing.T) {
	h := rightsHost(7, 0)
	for _, flags := range anyNumbers() {
		want, code := h, impl.HostInvalid
		if isFlags(flags) {
			box := boxOf(3, "one", "two")
			box.Mail[1].Flags |= flags
			want, code = withBox(h, "amy", "box1", box), impl.HostDone
		}
		for _, n := range []int{0, 2} {
			expectDo(t, h, storeEvent("bob", "amy/box1", n, flags), want, code)
		}
	}
}

func TestP198NumbersAreNotGivenAgain(t *testing.T) {
	kept := 0
	for _, x := range happenings() {
		expectNumbersKept(t, x.h, x.next)
		for _, f := range x.h.Folders {
			if after, ok := impl.HostFolder(x.next, f.Owner, f.Name); ok && len(after.Box.Mail) < len(f.Box.Mail) {
				kept++
			}
		}
	}
	if kept < 20 {
		t.Errorf("messages were removed %d times", kept)
	}
}

// otherMailboxes returns the paths of all mailboxes whose messages differ in two hosts.
func otherMailboxes(h impl.Host, next impl.Host) []string {
	var paths []string
	for _, f := range next.Folders {
		if before, ok := folderNamed(h, f.Owner, f.Name); !ok || !sameBox(before.Box, f.Box) {
			paths = append(paths, pathOf(f))
		}
	}
	return paths
}

// hasPath reports whether a mailbox is in a list.
func hasPath(list []impl.Folder, path string) bool {
	return slices.ContainsFunc(list, func(f impl.Folder) bool { return pathOf(f) == path })
}

func TestP199UnseenChanges(t *testing.T) {
	unseen := map[int]int{}
	eachDone(func(x happening) {
		paths := otherMailboxes(x.h, x.next)
		if len(paths) > 1 || len(paths) == 1 && x.code != impl.HostDone {
			t.Errorf("HostDo(%q, %q) changes %q, %d", []any{x.h}, []any{x.e}, paths, x.code)
		}
		for _, u := range x.h.Users {
			before := impl.HostView(x.h, u.Name)
			if len(paths) == 0 || hasPath(before, paths[0]) {
				continue
			}
			unseen[x.e.Kind]++
			if after := impl.HostView(x.next, u.Name); !sameFolders(after, before) {
				t.Errorf("after HostDo(%q, %q), HostView of %q is %q", []any{x.h}, []any{x.e}, u.Name, []any{after})
			}
		}
	}, impl.EvPut, impl.EvDeliver, impl.EvStore, impl.EvExpunge, impl.EvCopy)
	for _, kind := range []int{impl.EvPut, impl.EvDeliver, impl.EvStore, impl.EvExpunge, impl.EvCopy} {
		if unseen[kind] < 20 {
			t.Errorf("events of the kind %d were unseen %d times", kind, unseen[kind])
		}
	}
}

func TestP200GrantsThatChange(t *testing.T) {
	others, given := 0, 0
	for _, x := range happenings() {
		for _, f := range x.next.Folders {
			before, ok := folderNamed(x.h, f.Owner, f.Name)
			if slices.Equal(f.Grants, before.Grants) {
				continue
			}
			given++
			if x.e.By != f.Owner {
				others++
			}
			if !ok || x.e.Kind != impl.EvGrant || !hasFlag(impl.AclRights(before.Grants, f.Owner, x.e.By), impl.RightGrant) {
				t.Errorf("HostDo(%q, %q) gives %v in %q", []any{x.h}, []any{x.e}, f.Grants, pathOf(f))
			}
		}
	}
	if given < 100 || others < 20 {
		t.Errorf("rights were given %d times, and %d times by others than the owner", given, others)
	}
}

func TestP200RightToGrant(t *testing.T) {
	for _, h := range rightsHosts() {
		rights := rightsIn(grantsOf(h, "amy", "box1"), "amy", "bob")
		next, code := impl.HostDo(h, grantEvent("bob", "amy/box1", "cleo", 31))
		want, _ := withGrant(grantsOf(h, "amy", "box1"), "cleo", 31)
		if code != codeOfRights(rights, impl.RightGrant) || slices.Equal(grantsOf(next, "amy", "box1"), want) != (code == impl.HostDone) {
			t.Errorf("with the rights %d, EvGrant is %q, %d", rights, []any{next}, code)
		}
	}
}

// playRun returns HostPlay of a run, and checks it first.
func playRun(t *testing.T, r run) impl.Host {
	t.Helper()
	h, ok := impl.HostPlay(r.h, r.events)
	if want, wanted := played(r.h, r.events); ok != wanted || !sameHost(h, want) {
		t.Errorf("HostPlay(%.900q, %q) is %.900q, %v", []any{r.h}, []any{r.events}, []any{h}, ok)
	}
	return h
}

func TestP201EventsOneAfterTheOther(t *testing.T) {
	moved := 0
	for _, r := range hostRuns() {
		h := r.h
		for _, e := range r.events {
			next, _ := impl.HostDo(h, e)
			if !sameHost(next, h) {
				moved++
			}
			h = next
		}
		if got := playRun(t, r); !sameHost(got, h) {
			t.Errorf("HostPlay(%q, %q) is %q, and HostDo leads to %q", []any{r.h}, []any{r.events}, []any{got}, []any{h})
		}
	}
	if moved < 500 {
		t.Errorf("%d events changed a host", moved)
	}
}

// A run goes on after events of all codes.
func TestP201RefusedEvents(t *testing.T) {
	for _, events := range townEvents() {
		for _, e := range events {
			first, _ := impl.HostDo(town(), e)
			want, code := impl.HostDo(first, storeEvent("cleo", "cleo/archive", 1, 16))
			if code != impl.HostDone || sameHost(want, first) {
				t.Errorf("after %q, EvStore has the code %d", []any{e}, code)
			}
			if got := playRun(t, run{town(), []impl.Event{e, {Kind: 99}, storeEvent("cleo", "cleo/archive", 1, 16)}}); !sameHost(got, want) {
				t.Errorf("a run of %q and EvStore leads to %q", []any{e}, []any{got})
			}
		}
	}
}

// The same events in another order do not lead to the same host.
func TestP201OrderOfEvents(t *testing.T) {
	h := hostOf("amy:a1:60 bob:b2:20", impl.Queue{Next: 1})
	put, mark, gone := putEvent("amy", "amy/inbox", 0, "one"), storeEvent("amy", "amy/inbox", 0, 8), expungeEvent("amy", "amy/inbox")
	for _, c := range []struct {
		events []impl.Event
		want   impl.Box
	}{
		{[]impl.Event{put, mark, gone}, boxOf(2)}, {[]impl.Event{put, gone, mark}, boxOf(2, "one")}, {[]impl.Event{mark, gone, put}, impl.Box{Next: 2, Mail: []impl.Mail{{Uid: 1, Text: "one"}}}}, {[]impl.Event{put, mark, put}, impl.Box{Next: 3, Mail: []impl.Mail{{Uid: 1, Flags: 8, Text: "one"}, {Uid: 2, Text: "one"}}}},
		{[]impl.Event{put, put, mark, gone, put}, impl.Box{Next: 4, Mail: []impl.Mail{{Uid: 1, Text: "one"}, {Uid: 3, Text: "one"}}}}, {[]impl.Event{gone, mark}, boxOf(1)}, {[]impl.Event{put, mark, gone, put, mark, gone, put, mark}, impl.Box{Next: 4, Mail: []impl.Mail{{Uid: 3, Flags: 8, Text: "one"}}}},
	} {
		if got := playRun(t, run{h, c.events}); !sameBox(got.Folders[0].Box, c.want) {
			t.Errorf("HostPlay of %q leads to %q", []any{c.events}, []any{got})
		}
	}
}

func TestP202DividedRuns(t *testing.T) {
	for i, r := range hostRuns() {
		want := playRun(t, r)
		for at := range len(r.events) + 1 {
			if i%2 == 1 && at%5 != i%5 {
				continue
			}
			first, one := impl.HostPlay(r.h, r.events[:at])
			got, two := impl.HostPlay(first, r.events[at:])
			if !one || !two || !sameHost(got, want) {
				t.Errorf("divided at %d, HostPlay(%q, %q) is %q", at, []any{r.h}, []any{r.events}, []any{got})
			}
		}
	}
}

// manyEvents returns so many events, each of which changes the host of amy: they put messages, and remove them.
func manyEvents(count int) []impl.Event {
	list := make([]impl.Event, 0, count)
	for i := range count {
		list = append(list, []impl.Event{putEvent("amy", "amy/inbox", 8, "x"), expungeEvent("amy", "amy/inbox")}[i%2])
	}
	return list
}

func TestP203NumberOfEvents(t *testing.T) {
	h := hostOf("amy:a1:60", impl.Queue{Next: 1})
	for _, count := range []int{0, 1, 2, 3, 30, 58, 59, 60, 61, 62, 63, 64, 100, 120, 255, 256, 257, 300, 316, 512, 65536, 65537, 65596} {
		got, ok := impl.HostPlay(h, manyEvents(count))
		want := withBox(h, "amy", "inbox", impl.Box{Next: 1 + (count+1)/2})
		if count%2 == 1 {
			want.Folders[0].Box.Mail = []impl.Mail{{Uid: (count + 1) / 2, Flags: 8, Text: "x"}}
		}
		if count > 60 {
			want = impl.Host{}
		}
		if ok != (count <= 60) || !sameHost(got, want) {
			t.Errorf("HostPlay of %d events is %q, %v", count, []any{got}, ok)
		}
		for _, other := range []impl.Event{{}, {Kind: 99}, createEvent("zed", "a"), grantEvent("amy", "amy/inbox", "bob", 64)} {
			if got, ok := impl.HostPlay(h, slices.Repeat([]impl.Event{other}, count)); ok != (count <= 60) || ok != sameHost(got, h) {
				t.Errorf("HostPlay of %d events such as %q is %q, %v", count, []any{other}, []any{got}, ok)
			}
		}
	}
}

func TestP203NoEvents(t *testing.T) {
	for _, h := range append(hosts(), readHosts()...) {
		for _, events := range [][]impl.Event{nil, {}, make([]impl.Event, 0, 61), manyEvents(61)[:0], {{}}} {
			if got, ok := impl.HostPlay(h, events); !ok || !sameHost(got, h) {
				t.Errorf("HostPlay(%q, %q) is %q, %v", []any{h}, []any{events}, []any{got}, ok)
			}
		}
		if got, ok := impl.HostPlay(h, make([]impl.Event, 61)); ok || !sameHost(got, impl.Host{}) {
			t.Errorf("HostPlay of 61 events is %q, %v", []any{got}, ok)
		}
	}
}

func TestP204QuotasAfterRuns(t *testing.T) {
	for _, r := range hostRuns() {
		h := playRun(t, r)
		for _, u := range h.Users {
			if used := impl.HostUsed(h, u.Name); used < 0 || used > u.Quota || used != usedBy(h, u.Name) {
				t.Errorf("after HostPlay(%q, %q), %q has %d bytes", []any{r.h}, []any{r.events}, u.Name, used)
			}
		}
	}
}

// For all quotas, a run puts, delivers and copies messages to bob as long as there is room for them.
func TestP204AllQuotas(t *testing.T) {
	events := []impl.Event{createEvent("bob", "box1"), grantEvent("bob", "bob/inbox", "amy", 9), putEvent("amy", "amy/inbox", 0, "abc")}
	for range 10 {
		events = append(events, putEvent("bob", "bob/box1", 0, strings.Repeat("x", 20)))
	}
	for id := range 10 {
		events = append(events, submitEvent("amy", "bob", "seven\n\n"), deliverEvent(id+1, "bob"))
	}
	for range 10 {
		events = append(events, copyEvent("amy", "amy/inbox", 1, "bob"))
	}
	for quota := range 201 {
		h := hostOf("amy:a1:200 bob:b2:200", impl.Queue{Next: 1})
		h.Users[1].Quota = quota
		want := min(quota/20, 10) * 20
		letters := min((quota-want)/7, 10)
		want += letters * 7
		want += min((quota-want)/3, 10-letters) * 3
		got := playRun(t, run{h, events})
		if used := impl.HostUsed(got, "bob"); used != want || len(got.Queue.Items) != 0 {
			t.Errorf("with the quota %d, bob has %d bytes, not %d, in %q", quota, used, want, []any{got})
		}
	}
}

// expectView returns HostView of any arguments, and checks it first.
func expectView(t *testing.T, h impl.Host, user string) []impl.Folder {
	t.Helper()
	view := impl.HostView(h, user)
	if want := viewed(h, user); !sameFolders(view, want) {
		t.Errorf("HostView(%.900q, %q) is %.900q, not %.900q", []any{h}, user, []any{view}, []any{want})
	}
	return view
}

// eachView calls check with many hosts and all their users and others, and with what HostView returns.
func eachView(t *testing.T, check func(h impl.Host, user string, view []impl.Folder)) {
	t.Helper()
	all := slices.Concat(hosts(), readHosts(), rightsHosts())
	for _, r := range hostRuns() {
		all = append(all, playRun(t, r))
	}
	for _, h := range all {
		for _, user := range append(hostNames(h), "am", "Amy", "inbox") {
			check(h, user, expectView(t, h, user))
		}
	}
}

func TestP205ViewedMailboxes(t *testing.T) {
	others := 0
	eachView(t, func(h impl.Host, user string, view []impl.Folder) {
		at := 0
		for _, f := range view {
			for at < len(h.Folders) && pathOf(h.Folders[at]) != pathOf(f) {
				at++
			}
			if at == len(h.Folders) || len(f.Grants) != 0 || !sameBox(f.Box, h.Folders[at].Box) {
				t.Fatalf("HostView(%q, %q) has %q, or has it not in its place", []any{h}, user, []any{f})
			}
			rights := impl.AclRights(h.Folders[at].Grants, f.Owner, user)
			if !hasFlag(rights, impl.RightSee) || !hasFlag(rights, impl.RightRead) || !isCalled(h.Users, user) {
				t.Errorf("HostView(%q, %q) has %q, with the rights %d", []any{h}, user, []any{f}, rights)
			}
			if f.Owner != user && len(f.Box.Mail) > 0 {
				others++
			}
		}
	})
	if others < 100 {
		t.Errorf("%d mailboxes of others with messages were shown", others)
	}
}

// All rights by name, by Anyone, and by both.
func TestP205RightsToView(t *testing.T) {
	for _, h := range rightsHosts() {
		rights := rightsIn(grantsOf(h, "amy", "box1"), "amy", "bob")
		view, want := expectView(t, h, "bob"), 1
		if hasFlag(rights, impl.RightSee) && hasFlag(rights, impl.RightRead) {
			want = 2
		}
		if len(view) != want || hasPath(view, "amy/box1") != (want == 2) || len(expectView(t, h, "amy")) != 2 {
			t.Errorf("with the rights %d, HostView is %q", rights, []any{view})
		}
	}
	for _, c := range []struct {
		grants string
		want   bool
	}{
		{"", false}, {"bob=1", false}, {"bob=2", false}, {"bob=3", true}, {"bob=61", false}, {"bob=62", false}, {"bob=63", true}, {"anyone=1", false}, {"anyone=2", false}, {"anyone=3", true}, {"anyone=1 bob=2", true}, {"anyone=2 bob=1", true}, {"anyone=1 bob=1", false}, {"anyone=2 bob=2", false}, {"anyone=61 bob=2", true}, {"cleo=3", false}, {"bob=1 cleo=3", false}, {"amy=3 bob=2 cleo=1", false}, {"anyone=1 cleo=2", false}, {"inbox=3 zed=63", false},
	} {
		h := hostOf("amy:a1:60 bob:b2:20 cleo:c3:5", impl.Queue{Next: 1}, folderOf("amy/box1", c.grants, boxOf(7, "one", "", "three")))
		if view := expectView(t, h, "bob"); hasPath(view, "amy/box1") != c.want || !hasPath(view, "bob/inbox") || hasPath(view, "amy/inbox") {
			t.Errorf("with the grants %q, HostView is %q", c.grants, []any{view})
		}
	}
}

func TestP206OwnMailboxes(t *testing.T) {
	eachView(t, func(h impl.Host, user string, view []impl.Folder) {
		if !isCalled(h.Users, user) {
			if len(view) != 0 {
				t.Errorf("HostView(%q, %q) is %q", []any{h}, user, []any{view})
			}
			return
		}
		for _, f := range h.Folders {
			if f.Owner == user && !hasPath(view, pathOf(f)) {
				t.Errorf("HostView(%q, %q) is %q, without %q", []any{h}, user, []any{view}, pathOf(f))
			}
		}
		list := impl.SessionList(h, impl.Session{User: user})
		for _, f := range view {
			if !hasPath(list, pathOf(f)) || len(view) > len(list) {
				t.Errorf("HostView(%q, %q) has %q, and SessionList is %q", []any{h}, user, []any{f}, []any{list})
			}
		}
	})
}

func TestP206NamedViews(t *testing.T) {
	for user, want := range map[string]string{
		"amy": "amy/box1 amy/inbox bob/inbox cleo/archive", "bob": "amy/box1 bob/inbox cleo/inbox", "cleo": "amy/box1 cleo/archive cleo/inbox", "dan": "amy/box1 dan/inbox", "zed": "", "anyone": "", "": "", "Amy": "", "am": "", "amy/": "",
	} {
		var paths []string
		for _, f := range expectView(t, town(), user) {
			paths = append(paths, pathOf(f))
		}
		if got := strings.Join(paths, " "); got != want {
			t.Errorf("HostView for %q is %q", user, got)
		}
	}
}

// viewText returns what HostView shows to a user: for each mailbox the path, Next, and the number, the flags and the
// text of each message.
func viewText(h impl.Host, user string) string {
	var list []string
	for _, f := range impl.HostView(h, user) {
		words := []string{pathOf(f), strconv.Itoa(f.Box.Next)}
		for _, m := range f.Box.Mail {
			words = append(words, strconv.Itoa(m.Uid)+":"+strconv.Itoa(m.Flags)+":"+m.Text)
		}
		list = append(list, strings.Join(words, " "))
	}
	return strings.Join(list, ", ")
}

// step is an event of a run, its code, and what amy, bob and cleo are shown after it if that is not as it was.
type step struct {
	e              impl.Event
	code           int
	amy, bob, cleo string
}

// expectSteps checks a run, event by event, and all of its events at once.
func expectSteps(t *testing.T, first impl.Host, steps []step) {
	t.Helper()
	h, shown := first, map[string]string{}
	for _, user := range []string{"amy", "bob", "cleo"} {
		shown[user] = viewText(first, user)
	}
	var events []impl.Event
	for i, s := range steps {
		next, code := impl.HostDo(h, s.e)
		if code != s.code {
			t.Errorf("the code of the event %d, %q, is %d", i, []any{s.e}, code)
		}
		for user, view := range map[string]string{"amy": s.amy, "bob": s.bob, "cleo": s.cleo} {
			if view != "" {
				shown[user] = view
			}
			if got := viewText(next, user); got != shown[user] {
				t.Errorf("after the event %d, %q, %s is shown %q, not %q", i, []any{s.e}, user, got, shown[user])
			}
		}
		h, events = next, append(events, s.e)
	}
	if got := playRun(t, run{first, events}); !sameHost(got, h) {
		t.Errorf("all events lead to %q, and one after the other to %q", []any{got}, []any{h})
	}
}

// Amy shares a mailbox with bob, who puts messages into it before he may read it, and then with all others.
func TestWholeRunOfSharedMailboxes(t *testing.T) {
	expectSteps(t, hostOf("amy:a1:60 bob:b2:20 cleo:c3:9", impl.Queue{Next: 1}), []step{
		{putEvent("amy", "amy/box1", 0, "early"), 1, "", "", ""},
		{createEvent("amy", "box1"), 0, "amy/box1 1, amy/inbox 1", "", ""},
		{createEvent("amy", "box1"), 4, "", "", ""},
		{createEvent("amy", "Box1"), 5, "", "", ""},
		{putEvent("bob", "amy/box1", 0, "unseen"), 1, "", "", ""},
		{grantEvent("bob", "amy/box1", "bob", 63), 1, "", "", ""},
		{grantEvent("amy", "amy/box1", "bob", 9), 0, "", "", ""},
		{putEvent("bob", "amy/box1", 8, "one"), 0, "amy/box1 2 1:8:one, amy/inbox 1", "", ""},
		{copyEvent("bob", "amy/box1", 1, "bob"), 2, "", "", ""},
		{grantEvent("bob", "amy/box1", "bob", 63), 2, "", "", ""},
		{grantEvent("amy", "amy/box1", "anyone", 2), 0, "", "amy/box1 2 1:8:one, bob/inbox 1", ""},
		{copyEvent("bob", "amy/box1", 0, "bob"), 0, "", "amy/box1 2 1:8:one, bob/inbox 2 1:8:one", ""},
		{copyEvent("cleo", "amy/box1", 1, "cleo"), 1, "", "", ""},
		{grantEvent("amy", "amy/box1", "cleo", 1), 0, "", "", "amy/box1 2 1:8:one, cleo/inbox 1"},
		{storeEvent("cleo", "amy/box1", 1, 1), 2, "", "", ""},
		{copyEvent("cleo", "amy/box1", 1, "cleo"), 0, "", "", "amy/box1 2 1:8:one, cleo/inbox 2 1:8:one"},
		{storeEvent("cleo", "cleo/inbox", 1, 3), 0, "", "", "amy/box1 2 1:8:one, cleo/inbox 2 1:11:one"},
		{expungeEvent("bob", "amy/box1"), 2, "", "", ""},
		{grantEvent("amy", "amy/box1", "bob", 63-2), 0, "", "", ""},
		{storeEvent("bob", "amy/box1", 0, 16), 0, "amy/box1 2 1:24:one, amy/inbox 1", "amy/box1 2 1:24:one, bob/inbox 2 1:8:one", "amy/box1 2 1:24:one, cleo/inbox 2 1:11:one"},
		{putEvent("bob", "amy/box1", 0, "two"), 0, "amy/box1 3 1:24:one 2:0:two, amy/inbox 1", "amy/box1 3 1:24:one 2:0:two, bob/inbox 2 1:8:one", "amy/box1 3 1:24:one 2:0:two, cleo/inbox 2 1:11:one"},
		{copyEvent("cleo", "amy/box1", 0, "bob"), 1, "", "", ""},
		{expungeEvent("bob", "amy/box1"), 0, "amy/box1 3 2:0:two, amy/inbox 1", "amy/box1 3 2:0:two, bob/inbox 2 1:8:one", "amy/box1 3 2:0:two, cleo/inbox 2 1:11:one"},
		{storeEvent("amy", "amy/box1", 2, 8), 0, "", "", ""},
		{storeEvent("amy", "amy/box1", 100, 8), 5, "", "", ""},
		{grantEvent("bob", "amy/box1", "anyone", 0), 0, "", "bob/inbox 2 1:8:one", "cleo/inbox 2 1:11:one"},
		{putEvent("cleo", "amy/box1", 0, "three"), 2, "", "", ""},
		{storeEvent("amy", "amy/box1", 1, 8), 0, "amy/box1 3 2:8:two, amy/inbox 1", "", ""},
		{expungeEvent("amy", "amy/box1"), 0, "amy/box1 3, amy/inbox 1", "", ""},
		{expungeEvent("amy", "amy/box1"), 0, "", "", ""},
		{storeEvent("amy", "amy/box1", 0, 31), 0, "", "", ""},
		{copyEvent("amy", "amy/box1", 0, "amy"), 0, "", "", ""},
		{putEvent("amy", "amy/box1", 31, ""), 0, "amy/box1 4 3:31:, amy/inbox 1", "", ""},
	})
}

// Letters wait, are delivered once, or are lost; who shares an inbox is shown what is delivered there.
func TestWholeRunOfLettersAndViews(t *testing.T) {
	expectSteps(t, hostOf("amy:a1:60 bob:b2:20 cleo:c3:9", impl.Queue{Next: 1}), []step{
		{deliverEvent(1, "bob"), 1, "", "", ""},
		{submitEvent("amy", "bob", "twelve bytes"), 0, "", "", ""},
		{submitEvent("amy", "cleo", "twelve bytes"), 0, "", "", ""},
		{submitEvent("cleo", "cleo", "nine byte"), 0, "", "", ""},
		{submitEvent("zed", "cleo", "x"), 1, "", "", ""},
		{submitEvent("amy", "anyone", "x"), 1, "", "", ""},
		{submitEvent("amy", "", "x"), 5, "", "", ""},
		{submitEvent("bob", "amy", strings.Repeat("y", 21)), 5, "", "", ""},
		{deliverEvent(1, "amy"), 1, "", "", ""},
		{deliverEvent(1, "bob"), 0, "", "bob/inbox 2 1:0:twelve bytes", ""},
		{deliverEvent(1, "bob"), 1, "", "", ""},
		{deliverEvent(2, "cleo"), 3, "", "", ""},
		{deliverEvent(2, "cleo"), 1, "", "", ""},
		{deliverEvent(3, "cleo"), 0, "", "", "cleo/inbox 2 1:0:nine byte"},
		{grantEvent("cleo", "cleo/inbox", "amy", 3), 0, "amy/inbox 1, cleo/inbox 2 1:0:nine byte", "", ""},
		{submitEvent("bob", "cleo", ""), 0, "", "", ""},
		{deliverEvent(4, "cleo"), 0, "amy/inbox 1, cleo/inbox 3 1:0:nine byte 2:0:", "", "cleo/inbox 3 1:0:nine byte 2:0:"},
		{copyEvent("amy", "cleo/inbox", 1, "amy"), 0, "amy/inbox 2 1:0:nine byte, cleo/inbox 3 1:0:nine byte 2:0:", "", ""},
		{copyEvent("amy", "cleo/inbox", 1, "bob"), 1, "", "", ""},
		{grantEvent("bob", "bob/inbox", "amy", 9), 0, "", "", ""},
		{copyEvent("amy", "cleo/inbox", 1, "bob"), 3, "", "", ""},
		{copyEvent("amy", "cleo/inbox", 0, "bob"), 0, "", "bob/inbox 3 1:0:twelve bytes 2:0:", ""},
		{copyEvent("amy", "cleo/inbox", 3, "bob"), 0, "", "", ""},
		{storeEvent("bob", "bob/inbox", 1, 8), 0, "", "bob/inbox 3 1:8:twelve bytes 2:0:", ""},
		{submitEvent("amy", "bob", "nine byte"), 0, "", "", ""},
		{submitEvent("amy", "bob", "nine byte"), 0, "", "", ""},
		{deliverEvent(5, "bob"), 3, "", "", ""},
		{expungeEvent("amy", "bob/inbox"), 2, "", "", ""},
		{expungeEvent("bob", "bob/inbox"), 0, "", "bob/inbox 3 2:0:", ""},
		{deliverEvent(5, "bob"), 1, "", "", ""},
		{deliverEvent(6, "bob"), 0, "", "bob/inbox 4 2:0: 3:0:nine byte", ""},
		{copyEvent("amy", "cleo/inbox", 1, "bob"), 0, "", "bob/inbox 5 2:0: 3:0:nine byte 4:0:nine byte", ""},
		{submitEvent("amy", "amy", "for me"), 0, "", "", ""},
		{deliverEvent(7, "amy"), 0, "amy/inbox 3 1:0:nine byte 2:0:for me, cleo/inbox 3 1:0:nine byte 2:0:", "", ""},
		{grantEvent("cleo", "cleo/inbox", "amy", 1), 0, "amy/inbox 3 1:0:nine byte 2:0:for me", "", ""},
		{copyEvent("amy", "cleo/inbox", 2, "amy"), 2, "", "", ""},
		{impl.Event{Kind: 99, By: "amy"}, 5, "", "", ""},
		{impl.Event{}, 5, "", "", ""},
	})
}

// In long runs, all is held against the second definitions after each event, for all users.
func TestLongRunsOfEvents(t *testing.T) {
	random := rand.New(rand.NewPCG(3, 41)).IntN
	for _, h := range hostsOfRuns() {
		for range 200 {
			e := someEvent(h, random)
			next, code := impl.HostDo(h, e)
			want, wanted := happened(h, e)
			expectHost(t, next, code, want, wanted, "HostDo", e, h)
			for _, user := range hostNames(h) {
				expectView(t, next, user)
			}
			h = next
		}
	}
}

// runArguments are what the functions of runs take.
type runArguments struct {
	h      impl.Host
	events []impl.Event
	user   string
}

// runCalls has a call of each function for each kind of its results.
var runCalls = map[string]func(a runArguments) sessionResults{
	"HostDo": func(a runArguments) sessionResults {
		return stored(impl.HostDo(a.h, a.events[0]))
	},
	"HostDo of no kind": func(a runArguments) sessionResults {
		return stored(impl.HostDo(a.h, impl.Event{Kind: 9}))
	},
	"HostDo of invalid rights": func(a runArguments) sessionResults {
		return stored(impl.HostDo(a.h, grantEvent(a.user, a.user+"/inbox", a.user, 64)))
	},
	"HostPlay": func(a runArguments) sessionResults {
		h, ok := impl.HostPlay(a.h, a.events)
		return sessionResults{h: h, code: map[bool]int{true: impl.HostDone, false: impl.HostInvalid}[ok]}
	},
	"HostPlay of no events": func(a runArguments) sessionResults {
		h, ok := impl.HostPlay(a.h, a.events[:0])
		return sessionResults{h: h, code: map[bool]int{true: impl.HostDone, false: impl.HostInvalid}[ok]}
	},
	"HostPlay of too many events": func(a runArguments) sessionResults {
		h, ok := impl.HostPlay(a.h, append(a.events[:len(a.events):len(a.events)], make([]impl.Event, 60)...))
		return sessionResults{h: h, code: map[bool]int{true: impl.HostDone, false: impl.HostInvalid}[ok]}
	},
	"HostView": func(a runArguments) sessionResults {
		return sessionResults{folders: impl.HostView(a.h, a.user)}
	},
}

// runArgumentLists have an event of each kind, and one that is refused, by each user of a few hosts and of others, and
// behind it all of them.
func runArgumentLists() []runArguments {
	random := rand.New(rand.NewPCG(4, 41)).IntN
	var list []runArguments
	for _, h := range slices.Concat(fewHosts(), hostsOfBoxes()[:3], readHosts()[10:14], []impl.Host{sharedHost()}, fewNotHosts()) {
		users := hostNames(h)[2:]
		if !isHost(h) {
			users = []string{"amy"}
		}
		for _, user := range users {
			events := append(someEvents(h, user, user+"/inbox", random), grantEvent(user, user+"/inbox", "anyone", 3), putEvent(user, user+"/inbox", 8, ""), impl.Event{Kind: 9})
			for i, e := range events {
				list = append(list, runArguments{h, append([]impl.Event{e}, events[i:]...), user})
			}
		}
	}
	return list
}

func TestPlayedRunsKeepTheirMemory(t *testing.T) {
	other := impl.Event{Kind: 77, By: "other", A: 77}
	list := runArgumentLists()
	for name, call := range runCalls {
		for _, plain := range list {
			a := runArguments{roomyHost(plain.h), roomy(plain.events, other), plain.user}
			before, beforeEvents := wholeHost(a.h), slices.Clone(whole(a.events))
			isKept := func() bool { return sameHost(wholeHost(a.h), before) && slices.Equal(whole(a.events), beforeEvents) }
			first, second := call(a), call(a)
			want := second.clone()
			if !first.same(second) || !isKept() {
				t.Errorf("%s changed its arguments %.900q", name, []any{plain})
			}
			first.overwrite()
			if !second.same(want) || !isKept() {
				t.Errorf("a result of %s shares memory with the arguments %.900q or with another result", name, []any{plain})
			}
			overwriteHost(a.h)
			for i := range whole(a.events) {
				whole(a.events)[i] = other
			}
			if !second.same(want) {
				t.Errorf("a result of %s changes with the arguments %.900q", name, []any{plain})
			}
		}
	}
}

func TestPartsOfPlayedRunsShareNoMemory(t *testing.T) {
	for name, call := range runCalls {
		for _, a := range runArgumentLists() {
			r := call(a)
			if haveSharedParts(r.h) || haveSharedParts(impl.Host{Folders: r.folders}) {
				t.Errorf("the parts of a result of %s for %.900q share memory", name, []any{a})
			}
		}
	}
}

func TestPlayedRunsOfNilAndEmptySlices(t *testing.T) {
	list := runArgumentLists()
	for _, h := range []impl.Host{{}, {Domain: "org", Queue: impl.Queue{Next: 1}}, hostOf("amy:a1:60", impl.Queue{Next: 1}), withQueue(town(), impl.Queue{Next: 9})} {
		list = append(list, runArguments{h, manyEvents(3), "amy"})
	}
	for name, call := range runCalls {
		for _, a := range list {
			x := a
			x.h = emptied(a.h, 0)
			want := call(x)
			for kind := 1; kind < 4; kind++ {
				x.h = emptied(a.h, kind)
				if r := call(x); !r.same(want) {
					t.Errorf("%s of %.900q is not the same with empty lists: %.900q", name, []any{a}, []any{r})
				}
			}
		}
	}
	for kind := range 4 {
		if h, ok := impl.HostPlay(town(), emptyOf([]impl.Event{}, kind)); !ok || !sameHost(h, town()) {
			t.Errorf("HostPlay without events is %q, %v", []any{h}, ok)
		}
	}
}

// The bubble of synctest ends only if no goroutine that was begun in it is left over.
func TestGoroutinesOfPlayedRunsAreJoined(t *testing.T) {
	list := runArgumentLists()
	before := runtime.NumGoroutine()
	synctest.Test(t, func(t *testing.T) {
		for _, call := range runCalls {
			for _, a := range list {
				call(a)
			}
		}
	})
	expectGoroutines(t, before)
}

// Calls at the same time have the same results; the race detector shows whether they write what they are given.
func TestPlayedRunsAtTheSameTime(t *testing.T) {
	var all sync.WaitGroup
	for _, h := range []impl.Host{town(), sharedHost(), fewNotHosts()[3]} {
		for name, call := range runCalls {
			a := runArguments{h, append(manyEvents(4), copyEvent("amy", "amy/box1", 0, "amy"), submitEvent("amy", "bob", "x")), "bob"}
			want := call(a)
			for range 4 {
				all.Go(func() {
					if r := call(a); !r.same(want) {
						t.Errorf("%s at the same time as others is %.900q", name, []any{r})
					}
				})
			}
		}
	}
	all.Wait()
}
