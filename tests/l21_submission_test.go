package tests

import (
	"math"
	"regexp"
	"runtime"
	"slices"
	"strconv"
	"strings"
	"sync"
	"testing"
	"testing/synctest"

	"loop.example/mailhost/impl"
)

// A second definition of submissions, against which the program is held: first the reply is looked for, and then what
// the line changes. Lines are told apart by patterns, and not by their words.
var (
	helloPattern    = regexp.MustCompile(`(?s)\AEHLO ([^ ]*)\z`)
	plainPattern    = regexp.MustCompile(`(?s)\AAUTH PLAIN ([^ ]*)\z`)
	senderPattern   = regexp.MustCompile(`(?s)\AMAIL FROM:<([^@>]*)@([^>]*)>\z`)
	receiverPattern = regexp.MustCompile(`(?s)\ARCPT TO:<([^@>]*)@([^>]*)>\z`)
)

// areReceivers holds each name against all others.
func areReceivers(list []string) bool {
	if len(list) < 1 || len(list) > 3 {
		return false
	}
	for i, name := range list {
		for j, other := range list {
			if !isName(name) || i != j && name == other {
				return false
			}
		}
	}
	return true
}

func isLetter(x impl.Letter) bool {
	return isName(x.From) && areReceivers(x.To) && len(x.Text) <= 20
}

func isSubmission(s impl.Submission) bool {
	userFits, toFits, textFits := s.User == "", len(s.To) == 0, s.Text == ""
	if 2 <= s.Stage && s.Stage <= 5 {
		userFits = isName(s.User)
	}
	if s.Stage == 4 || s.Stage == 5 {
		toFits = areReceivers(s.To)
	}
	if s.Stage == 5 {
		textFits = len(s.Text) <= 21
	}
	return 0 <= s.Stage && s.Stage <= 6 && userFits && toFits && textFits
}

func firstWord(line string) string {
	return strings.SplitN(line, " ", 2)[0]
}

func isCalled(list []impl.User, name string) bool {
	return slices.ContainsFunc(list, func(u impl.User) bool { return u.Name == name })
}

// addressIn returns the address of a line of a pattern.
func addressIn(pattern *regexp.Regexp, line string) (string, string, bool) {
	parts := pattern.FindStringSubmatch(line)
	if parts == nil || !isName(parts[1]) || !isDomain(parts[2]) {
		return "", "", false
	}
	return parts[1], parts[2], true
}

func helloReply(line string) int {
	if parts := helloPattern.FindStringSubmatch(line); parts == nil || !isDomain(parts[1]) {
		return 501
	}
	return 250
}

func proofReply(s impl.Submission, users []impl.User, line string) int {
	parts := plainPattern.FindStringSubmatch(line)
	if s.Stage != 1 {
		return 503
	} else if parts == nil {
		return 501
	} else if _, ok := proverOf(users, parts[1]); !ok {
		return 535
	}
	return 235
}

func senderReply(s impl.Submission, domain string, line string) int {
	user, at, ok := addressIn(senderPattern, line)
	if s.Stage < 2 {
		return 530
	} else if s.Stage > 2 {
		return 503
	} else if !ok {
		return 501
	} else if user != s.User || at != domain {
		return 550
	}
	return 250
}

func receiverReply(s impl.Submission, users []impl.User, domain string, line string) int {
	user, at, ok := addressIn(receiverPattern, line)
	if s.Stage < 3 {
		return 503
	} else if !ok {
		return 501
	} else if at != domain || !isCalled(users, user) {
		return 550
	} else if len(s.To) == 3 && !slices.Contains(s.To, user) {
		return 452
	}
	return 250
}

func dataReply(s impl.Submission, line string) int {
	if line != "." {
		return 0
	} else if len(s.Text) == 21 {
		return 552
	}
	return 250
}

func replyTo(s impl.Submission, users []impl.User, domain string, line string) int {
	if s.Stage == 6 {
		return 503
	} else if s.Stage == 5 {
		return dataReply(s, line)
	}
	switch firstWord(line) {
	case "EHLO":
		return helloReply(line)
	case "AUTH":
		return proofReply(s, users, line)
	case "MAIL":
		return senderReply(s, domain, line)
	case "RCPT":
		return receiverReply(s, users, domain, line)
	}
	if line == "DATA" && s.Stage == 4 {
		return 354
	}
	reply, known := map[string]int{"DATA": 503, "RSET": 250, "NOOP": 250, "QUIT": 221}[line]
	if !known {
		return 500
	}
	return reply
}

// back returns a submission that has gone back.
func back(s impl.Submission) impl.Submission {
	if s.Stage <= 2 {
		return s
	}
	return impl.Submission{Stage: 2, User: s.User}
}

// dataAfter returns the submission after a line in the stage of data: byte by byte is appended, as long as there is room.
func dataAfter(s impl.Submission, line string) impl.Submission {
	if line == "." {
		return back(s)
	}
	if line != "" && line[0] == '.' {
		line = line[1:]
	}
	for _, b := range []byte(line + "\n") {
		if len(s.Text) < 21 {
			s.Text += string([]byte{b})
		}
	}
	return s
}

// after returns the submission after a line with a reply.
func after(s impl.Submission, users []impl.User, line string, reply int) impl.Submission {
	if s.Stage == 5 {
		return dataAfter(s, line)
	}
	switch firstWord(line) + " " + strconv.Itoa(reply) {
	case "EHLO 250":
		s = back(s)
		s.Stage = []int{1, 1, 2}[s.Stage]
	case "AUTH 235":
		s.Stage = 2
		s.User, _ = proverOf(users, strings.Split(line, " ")[2])
	case "MAIL 250":
		s.Stage = 3
	case "RCPT 250":
		user, _, _ := addressIn(receiverPattern, line)
		s.Stage = 4
		if !slices.Contains(s.To, user) {
			s.To = append(slices.Clone(s.To), user)
		}
	case "DATA 354":
		s.Stage = 5
	case "RSET 250":
		s = back(s)
	case "QUIT 221":
		s = impl.Submission{Stage: 6}
	}
	return s
}

// handled is a second definition of SubmissionLine.
func handled(s impl.Submission, users []impl.User, domain string, line string) (impl.Submission, int) {
	if !isSubmission(s) || !isUsers(users) || !isDomain(domain) {
		return impl.Submission{}, -1
	}
	reply := replyTo(s, users, domain, line)
	return after(s, users, line, reply), reply
}

// letterOf is a second definition of SubmissionLetter.
func letterOf(s impl.Submission) (impl.Letter, bool) {
	x := impl.Letter{From: s.User, To: s.To, Text: s.Text}
	if s.Stage != 5 || !isSubmission(s) || !isLetter(x) {
		return impl.Letter{}, false
	}
	return x, true
}

// allHandled is a second definition of SubmissionRun.
func allHandled(users []impl.User, domain string, lines []string) ([]int, []impl.Letter) {
	if !isUsers(users) || !isDomain(domain) {
		return nil, nil
	}
	var replies []int
	var letters []impl.Letter
	s := impl.Submission{}
	for _, line := range lines {
		if x, ok := letterOf(s); ok && line == "." {
			letters = append(letters, x)
		}
		next, reply := handled(s, users, domain, line)
		replies = append(replies, reply)
		s = next
	}
	return replies, letters
}

func sameSubmission(a impl.Submission, b impl.Submission) bool {
	return a.Stage == b.Stage && a.User == b.User && slices.Equal(a.To, b.To) && a.Text == b.Text
}

func sameLetter(a impl.Letter, b impl.Letter) bool {
	return a.From == b.From && slices.Equal(a.To, b.To) && a.Text == b.Text
}

func sameLetters(a []impl.Letter, b []impl.Letter) bool {
	return slices.EqualFunc(a, b, sameLetter)
}

// staged returns a submission, whose receivers are the words of a text.
func staged(stage int, user string, to string, text string) impl.Submission {
	return impl.Submission{Stage: stage, User: user, To: strings.Fields(to), Text: text}
}

// hostUsers are as many as there may be, so that a letter need not go to all of them.
func hostUsers() []impl.User {
	return usersOf("amy:a1:60 bob:b2:20 cleo:c3:200 dan:d4:0")
}

// receiverLists are valid: in each order, of users and of others, and of one name to MaxTo.
func receiverLists() []string {
	list := []string{"amy", "bob", "cleo", "dan", "eve", "anyone", "0", "zzzzzzzz", "eve amy", "a aa", "aa a", "abcdefgh abcdefg", "eve fay gus", "9 10 1", "anyone bob eve", "abcdefgh zzzzzzzz 01234567"}
	for _, order := range orders([]string{"amy", "bob", "cleo", "dan"}) {
		list = append(list, strings.Join(order[:2], " "), strings.Join(order[:3], " "))
	}
	slices.Sort(list)
	return slices.Compact(list)
}

// keptTexts are valid in the stage of data: of no bytes to one more than a letter may have.
func keptTexts() []string {
	list := []string{"\n", "\n\n", ".\n", "..\n", ".", "a\nb\n", "hello\n", "\x00\n", "\xff\xfe\n", "é\n", strings.Repeat("\n", 20), strings.Repeat("\n", 21), strings.Repeat("é", 10) + "\n", strings.Repeat("世", 7)}
	for n := range 22 {
		list = append(list, strings.Repeat("x", n))
	}
	return list
}

// submissions are valid, in all stages.
func submissions() []impl.Submission {
	list := []impl.Submission{{}, {Stage: 1}, {Stage: 6}}
	for _, user := range append(names(), "bob", "cleo", "dan", "anyone") {
		list = append(list, staged(2, user, "", ""), staged(3, user, "", ""), staged(4, user, "amy", ""), staged(5, user, "bob dan", "hello\n"))
	}
	for i, to := range receiverLists() {
		texts := keptTexts()
		list = append(list, staged(4, "amy", to, ""), staged(4, "bob", to, ""), staged(5, "amy", to, texts[i%len(texts)]))
	}
	for i, text := range keptTexts() {
		lists := receiverLists()
		list = append(list, staged(5, "amy", lists[i%len(lists)], text), staged(5, "bob", "bob", text))
	}
	return list
}

// fewSubmissions are valid: in each stage, with and without room for a receiver, and with and without room for a text.
func fewSubmissions() []impl.Submission {
	return []impl.Submission{
		staged(0, "", "", ""), staged(1, "", "", ""), staged(2, "amy", "", ""), staged(2, "bob", "", ""), staged(2, "eve", "", ""), staged(3, "amy", "", ""), staged(3, "eve", "", ""), staged(4, "amy", "bob", ""), staged(4, "bob", "cleo bob", ""), staged(4, "amy", "dan amy bob", ""), staged(4, "amy", "eve fay gus", ""),
		staged(5, "amy", "bob", ""), staged(5, "bob", "bob amy", "one\n"), staged(5, "amy", "amy bob cleo", strings.Repeat("x", 18)), staged(5, "amy", "dan", strings.Repeat("x", 19)), staged(5, "amy", "eve", strings.Repeat("x", 20)), staged(5, "amy", "bob", strings.Repeat("x", 21)), staged(6, "", "", ""),
	}
}

// inStages returns those of the valid submissions that are in some stages.
func inStages(first int, last int) []impl.Submission {
	return slices.DeleteFunc(submissions(), func(s impl.Submission) bool { return s.Stage < first || s.Stage > last })
}

func notStages() []int {
	list := []int{math.MinInt, math.MinInt + 5, math.MaxInt, math.MaxInt - 1, math.MinInt32, math.MaxInt32, 1 << 32, 1<<32 + 2, 256, 258, 65536, -256, -251}
	for n := 1; n < 40; n++ {
		list = append(list, -n, 6+n)
	}
	return list
}

// notReceivers have one fault each; those of each number differ from valid ones only by it.
func notReceivers() [][]string {
	list := [][]string{
		{"amy", "amy"}, {"amy", "bob", "amy"}, {"amy", "amy", "bob"}, {"bob", "amy", "amy"}, {"amy", "amy", "amy"}, {"amy", "bob", "cleo", "dan"}, {"amy", "bob", "cleo", "amy"}, {"a", "b", "c", "d", "e"}, {"amy bob"}, {"amy,bob"},
	}
	for _, text := range notNames() {
		list = append(list, []string{text}, []string{text, "amy"}, []string{"amy", text}, []string{text, "amy", "bob"}, []string{"amy", text, "bob"}, []string{"amy", "bob", text})
	}
	for _, count := range []int{16, 255, 256, 257, 259, 65537, 65539} {
		long := make([]string, count)
		for i := range long {
			long[i] = "u" + strconv.Itoa(i)
		}
		list = append(list, long)
	}
	return list
}

// withFaultsOfStages returns submissions that have what does not belong to their stages, or lack what does.
func withFaultsOfStages() []impl.Submission {
	var list []impl.Submission
	for stage := range 7 {
		for _, user := range []string{"", "amy"} {
			for _, to := range []string{"", "amy", "bob eve cleo"} {
				for _, text := range []string{"", "x", "\n", strings.Repeat("x", 20), strings.Repeat("x", 21), strings.Repeat("x", 22)} {
					list = append(list, staged(stage, user, to, text))
				}
			}
		}
	}
	return slices.DeleteFunc(list, isSubmission)
}

// notSubmissions have one fault each, or are those of withFaultsOfStages.
func notSubmissions() []impl.Submission {
	list := withFaultsOfStages()
	for _, stage := range notStages() {
		list = append(list, staged(stage, "", "", ""), staged(stage, "amy", "", ""), staged(stage, "amy", "bob", ""), staged(stage, "amy", "bob", "one\n"))
	}
	for _, text := range notNames() {
		list = append(list, staged(2, text, "", ""), staged(3, text, "", ""), staged(4, text, "bob", ""), staged(5, text, "bob", "one\n"))
		if text != "" {
			list = append(list, staged(0, text, "", ""), staged(1, text, "", ""), staged(6, text, "", ""))
		}
	}
	for _, to := range notReceivers() {
		for stage := range 7 {
			list = append(list, impl.Submission{Stage: stage, User: []string{"", "", "amy", "amy", "amy", "amy", ""}[stage], To: to})
		}
	}
	for _, text := range []string{strings.Repeat("x", 22), strings.Repeat("x", 23), strings.Repeat("x", 255), strings.Repeat("x", 256), strings.Repeat("x", 65536), strings.Repeat("é", 11)} {
		list = append(list, staged(5, "amy", "bob", text), staged(5, "bob", "amy bob eve", text))
	}
	return list
}

// commands are lines of all kinds that are right in some stage.
func commands() []string {
	list := []string{"EHLO host", "EHLO host.org", "EHLO abcdefgh.abcdefgh.ab", "DATA", "RSET", "NOOP", "QUIT"}
	for _, u := range hostUsers() {
		list = append(list, "AUTH PLAIN "+proofOf(u.Name, u.Pass), "MAIL FROM:<"+u.Name+"@host.org>", "RCPT TO:<"+u.Name+"@host.org>")
	}
	return append(list, "MAIL FROM:<eve@host.org>", "RCPT TO:<eve@host.org>", "MAIL FROM:<amy@host>", "RCPT TO:<amy@host>", "AUTH PLAIN "+proofOf("amy", "b2"))
}

// dataLines are lines that are appended, but for the first one.
func dataLines() []string {
	list := []string{".", "", "..", "...", "....", ".x", ".x.", "x", "x.", "x..", " ", " .", ". ", ".\n", "\n", "\n.", ".\r", "a\nb", "\x00", ".\x00", "\xff", ".\xff\xfe", "é", ".é", "hello", "hello bob", "EHLO host", "QUIT", "RSET", "NOOP", "DATA", "XYZ", ".QUIT", "MAIL FROM:<amy@host.org>"}
	for n := 17; n < 24; n++ {
		list = append(list, strings.Repeat("y", n), "."+strings.Repeat("y", n), strings.Repeat(".", n), strings.Repeat("é", n/2))
	}
	return append(list, strings.Repeat("y", 300), strings.Repeat(".", 3000))
}

// otherLines are wrong: their case, their blanks, or words too many or too few.
func otherLines() []string {
	list := []string{
		"", " ", "  ", "\x00", "\n", "\xff", "é", "XYZ", "HELO host", "EHLO", "AUTH", "MAIL", "RCPT", "EHLOhost", "EHLOX host", "XEHLO host", "AUTHPLAIN", "AUTHX PLAIN x", "MAILFROM:<amy@host.org>", "MAILX FROM:<amy@host.org>", "RCPTTO:<bob@host.org>", "RCPTX TO:<bob@host.org>",
		"EHLO ", "EHLO .", "EHLO a b", "EHLO a b c", "EHLO host host", "EHLO host.", "EHLO .host", "EHLO Host", "EHLO a.b.c.d", "EHLO abcdefgh.abcdefgh.abc", "EHLO\thost", "EHLO host\t", "EHLO host\n", "EHLO amy@host.org", "EHLO EHLO",
		"AUTH ", "AUTH LOGIN", "AUTH LOGIN x", "AUTH PLAIN", "AUTH PLAIN ", "AUTH PLAIN  ", "AUTH PLAIN x", "AUTH PLAIN x y", "AUTH  AGFteQBhMQ==", "AUTH AGFteQBhMQ==", "AUTH AGFteQBhMQ== PLAIN", "AUTH plain AGFteQBhMQ==", "AUTH PLAINX AGFteQBhMQ==", "AUTH XPLAIN AGFteQBhMQ==", "AUTH LOGIN AGFteQBhMQ==", "AUTH PLAIN AGFteQBhMQ== x", "AUTH PLAIN AGFteQBhMQ", "AUTH PLAIN =", "AUTH PLAIN amy", "AUTH PLAIN AAAA", "AUTH PLAIN AGFteQBhMQ==\n", "AUTH PLAIN:AGFteQBhMQ==",
		"MAIL ", "MAIL FROM", "MAIL FROM:", "MAIL FROM:<>", "MAIL FROM:amy@host.org", "MAIL FROM:<amy@host.org", "MAIL FROM:amy@host.org>", "MAIL FROM: <amy@host.org>", "MAIL FROM:<amy@host.org>>", "MAIL FROM:<<amy@host.org>", "MAIL FROM:<amy@host.org>x", "MAIL FROM:<amy@host.org> x", "MAIL FROM:<amy>", "MAIL FROM:<@host.org>", "MAIL FROM:<amy@>", "MAIL FROM:<Amy@host.org>", "MAIL FROM:<amy@Host.org>", "MAIL FROM:<amy@host.org.>", "MAIL FROM:<amy@host..org>", "MAIL from:<amy@host.org>", "MAIL From:<amy@host.org>", "MAIL TO:<amy@host.org>", "MAIL FROM:<amy@@host.org>", "MAIL FROM:<amy@host.org>\n", "MAIL FROM <amy@host.org>", "MAIL FROM:FROM:<amy@host.org>", "MAIL FROM:MAIL FROM:<amy@host.org>",
		"RCPT ", "RCPT TO", "RCPT TO:", "RCPT TO:<>", "RCPT TO:bob@host.org", "RCPT TO:<bob@host.org", "RCPT TO:bob@host.org>", "RCPT TO: <bob@host.org>", "RCPT TO:<bob@host.org>>", "RCPT TO:<<bob@host.org>", "RCPT TO:<bob@host.org>x", "RCPT TO:<bob@host.org> x", "RCPT TO:<bob>", "RCPT TO:<@host.org>", "RCPT TO:<bob@>", "RCPT TO:<Bob@host.org>", "RCPT TO:<bob@host.Org>", "RCPT to:<bob@host.org>", "RCPT To:<bob@host.org>", "RCPT FROM:<bob@host.org>", "RCPT TO:<bob@host.org>\n", "RCPT TO <bob@host.org>", "RCPT TO:<anyone@host.org>", "RCPT TO:<inbox@host.org>", "RCPT TO:TO:<bob@host.org>", "RCPT TO:<>x", "MAIL FROM:<>x",
		"DATA x", "RSET x", "NOOP x", "QUIT x", "DATA QUIT", "DATA\n", "RSET\n", "NOOP\r", "QUIT\t", "DATADATA", "NOOPQUIT", "QUI", "UIT", "NOO", "STARTTLS", "VRFY amy", "HELP", "354", "250",
	}
	for _, line := range commands() {
		list = append(list, line+" ", " "+line, line+" x", "x "+line, "  "+line, line+"  ", strings.ToLower(line), strings.ToUpper(line), strings.Replace(line, " ", "  ", 1), strings.ReplaceAll(line, " ", "\t"), line[1:], line[:len(line)-1], strings.ReplaceAll(line, "host.org", "host.org.x"), line+"\n"+line)
	}
	return list
}

// allLines are lines of all kinds, right and wrong ones.
func allLines() []string {
	return slices.Concat(commands(), otherLines(), dataLines())
}

// wordLines returns all lines of at most most words of a list, with blanks between them.
func wordLines(words []string, most int) []string {
	list := words
	last := words
	for range most - 1 {
		var next []string
		for _, line := range last {
			for _, word := range words {
				next = append(next, line+" "+word)
			}
		}
		list = append(slices.Clone(list), next...)
		last = next
	}
	return list
}

// withOtherBytes returns all lines that differ from a line in one byte, or by one byte more or less.
func withOtherBytes(line string) []string {
	var list []string
	for i := range len(line) {
		list = append(list, line[:i]+line[i+1:])
		for _, sign := range []string{" ", "\t", "\n", "\x00", ".", ":", "<", ">", "@", "=", "a", "z", "A", "Z", "0", "\xff", string([]byte{line[i] ^ 32})} {
			list = append(list, line[:i]+sign+line[i+1:])
		}
	}
	for _, sign := range []string{" ", "\t", "\n", "\x00", ".", ":", "<", ">", "@", "a", "A", "\xff"} {
		list = append(list, withPut(line, sign)...)
	}
	return list
}

// replied returns SubmissionLine of any arguments, and checks it first.
func replied(t *testing.T, s impl.Submission, users []impl.User, domain string, line string) (impl.Submission, int) {
	t.Helper()
	want, wanted := handled(s, users, domain, line)
	next, reply := impl.SubmissionLine(s, users, domain, line)
	if reply != wanted || !sameSubmission(next, want) {
		t.Errorf("SubmissionLine(%.200q, %.200v, %.30q, %.80q) is %.200q, %d, not %.200q, %d", []any{s}, users, domain, line, []any{next}, reply, []any{want}, wanted)
	}
	return next, reply
}

// expectReply checks a reply for the users of hostUsers, and returns the submission after it.
func expectReply(t *testing.T, s impl.Submission, line string, want int) impl.Submission {
	t.Helper()
	next, reply := replied(t, s, hostUsers(), "host.org", line)
	if reply != want {
		t.Errorf("after %.200q, the reply to %.80q is %d, not %d", []any{s}, line, reply, want)
	}
	return next
}

// expectSame checks a reply, and that nothing changes.
func expectSame(t *testing.T, s impl.Submission, line string, want int) {
	t.Helper()
	if next := expectReply(t, s, line, want); !sameSubmission(next, s) {
		t.Errorf("the line %.80q changes %.200q to %.200q", line, []any{s}, []any{next})
	}
}

// expectBack checks that a submission has gone back: there is no letter, and the user is the same.
func expectBack(t *testing.T, s impl.Submission, next impl.Submission, stage int) {
	t.Helper()
	if next.Stage != stage || next.User != s.User || len(next.To) != 0 || next.Text != "" {
		t.Errorf("%.200q has gone back to %.200q", []any{s}, []any{next})
	}
}

// ran returns SubmissionRun of any arguments, and checks it first.
func ran(t *testing.T, users []impl.User, domain string, lines []string) ([]int, []impl.Letter) {
	t.Helper()
	want, wanted := allHandled(users, domain, lines)
	replies, letters := impl.SubmissionRun(users, domain, lines)
	if !slices.Equal(replies, want) || !sameLetters(letters, wanted) {
		t.Errorf("SubmissionRun(%.100v, %.30q, %.300q) is %v, %.200q, not %v, %.200q", users, domain, lines, replies, letters, want, wanted)
	}
	return replies, letters
}

func TestConstantsOfSubmissions(t *testing.T) {
	if impl.StageNew != 0 || impl.StageHello != 1 || impl.StageUser != 2 || impl.StageMail != 3 || impl.StageTo != 4 || impl.StageData != 5 || impl.StageOver != 6 || impl.MaxTo != 3 {
		t.Errorf("the stages or the limit are wrong")
	}
}

func TestSubmissionsAreValid(t *testing.T) {
	for _, s := range append(submissions(), fewSubmissions()...) {
		if !impl.SubmissionValid(s) || !isSubmission(s) {
			t.Errorf("SubmissionValid(%q) does not hold", []any{s})
		}
	}
}

func TestSubmissionsAreInvalid(t *testing.T) {
	for _, s := range notSubmissions() {
		if impl.SubmissionValid(s) || isSubmission(s) {
			t.Errorf("SubmissionValid(%.200q) holds", []any{s})
		}
		for _, line := range []string{"EHLO host", "NOOP", "QUIT", ".", "x", ""} {
			if next, reply := impl.SubmissionLine(s, hostUsers(), "host.org", line); reply != -1 || !sameSubmission(next, impl.Submission{}) {
				t.Errorf("SubmissionLine(%.200q, %q) is %q, %d", []any{s}, line, []any{next}, reply)
			}
		}
		if x, ok := impl.SubmissionLetter(s); ok || !sameLetter(x, impl.Letter{}) {
			t.Errorf("SubmissionLetter(%.200q) is %q, %v", []any{s}, []any{x}, ok)
		}
	}
}

func TestSubmissionLineOfInvalidArguments(t *testing.T) {
	lines := []string{"EHLO host", "NOOP", "QUIT", "XYZ", ".", "AUTH PLAIN AGFteQBhMQ==", ""}
	for _, s := range fewSubmissions() {
		for _, users := range append(fewNotUserLists(), longUserLists()...) {
			for _, line := range lines {
				replied(t, s, users, "host.org", line)
			}
		}
		for _, domain := range notDomains() {
			for _, line := range lines {
				if next, reply := replied(t, s, hostUsers(), domain, line); reply != -1 || !sameSubmission(next, impl.Submission{}) {
					t.Errorf("in the domain %q, the reply to %q is %d", domain, line, reply)
				}
			}
		}
	}
}

// All kinds of lines in all stages; the promises say of some what is held here against the second definition of all.

func TestLinesInAllStages(t *testing.T) {
	for _, line := range allLines() {
		for _, s := range submissions() {
			replied(t, s, hostUsers(), "host.org", line)
		}
	}
}

func TestLinesOfOtherUsersAndDomains(t *testing.T) {
	for _, line := range commands() {
		for _, domain := range []string{"a", "host", "host.org.x", "abcdefgh.abcdefgh.ab"} {
			line := strings.ReplaceAll(line, "host.org", domain)
			for _, s := range submissions() {
				replied(t, s, usersOf("amy:b2:0"), domain, line)
				replied(t, s, usersOf("a:b:1 bob:b2:2 eve:e5:3"), "host.org", line)
			}
		}
	}
}

func TestLinesOfWords(t *testing.T) {
	words := []string{"EHLO", "AUTH", "MAIL", "RCPT", "DATA", "RSET", "NOOP", "QUIT", "PLAIN", "host", "", "AGFteQBhMQ==", "FROM:<amy@host.org>", "TO:<bob@host.org>", "."}
	for _, line := range wordLines(words, 3) {
		for _, s := range fewSubmissions() {
			replied(t, s, hostUsers(), "host.org", line)
		}
	}
	for _, line := range wordLines([]string{"EHLO", "AUTH", "PLAIN", "host", "", "AGFteQBhMQ=="}, 5) {
		for _, s := range []impl.Submission{staged(0, "", "", ""), staged(1, "", "", ""), staged(3, "amy", "", "")} {
			replied(t, s, hostUsers(), "host.org", line)
		}
	}
}

func TestLinesWithOtherBytes(t *testing.T) {
	for _, line := range []string{"EHLO host", "AUTH PLAIN AGFteQBhMQ==", "MAIL FROM:<amy@host.org>", "RCPT TO:<bob@host.org>", "DATA", "RSET", "NOOP", "QUIT", ".", "..", ".x"} {
		for _, other := range withOtherBytes(line) {
			for _, s := range fewSubmissions() {
				replied(t, s, hostUsers(), "host.org", other)
			}
		}
	}
}

func TestShortLines(t *testing.T) {
	for _, line := range shortTexts(". \nxE", 4) {
		for _, s := range fewSubmissions() {
			replied(t, s, hostUsers(), "host.org", line)
		}
	}
}

// The first of the conditions that applies decides, where several apply at once.
func TestFirstConditionDecides(t *testing.T) {
	noUser, hello := staged(0, "", "", ""), staged(1, "", "", "")
	user, mail := staged(2, "amy", "", ""), staged(3, "amy", "", "")
	some, full := staged(4, "amy", "bob", ""), staged(4, "amy", "bob cleo dan", "")
	for _, c := range []struct {
		s    impl.Submission
		line string
		want int
	}{
		{noUser, "AUTH", 503}, {noUser, "AUTH LOGIN x", 503}, {noUser, "AUTH PLAIN x", 503}, {user, "AUTH PLAIN", 503}, {user, "AUTH PLAIN x", 503}, {full, "AUTH x y z", 503}, {hello, "AUTH LOGIN x", 501}, {hello, "AUTH LOGIN AGFteQBhMQ==", 501}, {hello, "AUTH PLAIN x y", 501}, {hello, "AUTH PLAIN x", 535}, {hello, "AUTH PLAIN ", 535},
		{noUser, "MAIL", 530}, {noUser, "MAIL FROM:<>", 530}, {hello, "MAIL FROM:<eve@x>", 530}, {hello, "MAIL x", 530}, {mail, "MAIL", 503}, {mail, "MAIL FROM:<>", 503}, {some, "MAIL FROM:<bob@host.org>", 503}, {full, "MAIL  ", 503}, {user, "MAIL", 501}, {user, "MAIL FROM:<>", 501}, {user, "MAIL FROM:<bob@host.org", 501}, {user, "MAIL FROM:<bob@host.org>", 550}, {user, "MAIL FROM:<amy@host>", 550},
		{noUser, "RCPT", 503}, {hello, "RCPT TO:<>", 503}, {user, "RCPT TO:<>", 503}, {user, "RCPT TO:<eve@x>", 503}, {user, "RCPT x", 503}, {mail, "RCPT", 501}, {full, "RCPT TO:<>", 501}, {full, "RCPT TO:bob@host.org", 501}, {full, "RCPT TO:<eve@host.org>", 550}, {full, "RCPT TO:<bob@host>", 550}, {full, "RCPT TO:<cleo@host.org>", 250}, {full, "RCPT TO:<amy@host.org>", 452}, {full, "RCPT TO:<amy@host>", 550},
		{full, "EHLO", 501}, {noUser, "DATA", 503}, {noUser, "DATA x", 500}, {some, "DATA x", 500}, {some, "DATA ", 500}, {mail, "RSET x", 500}, {mail, "NOOP x", 500}, {mail, "QUIT x", 500}, {noUser, " EHLO host", 500}, {noUser, "", 500}, {noUser, " ", 500}, {noUser, ".", 500},
	} {
		if next := expectReply(t, c.s, c.line, c.want); c.want != 250 && !sameSubmission(next, c.s) {
			t.Errorf("the line %q changes %q to %q", c.line, []any{c.s}, []any{next})
		}
	}
}

func TestP113Hello(t *testing.T) {
	for _, s := range inStages(0, 4) {
		for _, domain := range append(domains(), "host") {
			next := expectReply(t, s, "EHLO "+domain, 250)
			expectBack(t, s, next, []int{1, 1, 2, 2, 2}[s.Stage])
		}
	}
}

func TestP114HelloWithWrongWords(t *testing.T) {
	for _, s := range inStages(0, 4) {
		for _, line := range []string{"EHLO", "EHLO .", "EHLO a b", "EHLO ", "EHLO  host", "EHLO host ", "EHLO  ", "EHLO host org", "EHLO a b c"} {
			expectSame(t, s, line, 501)
		}
	}
	for _, s := range fewSubmissions()[:11] {
		for _, domain := range notDomains() {
			expectSame(t, s, "EHLO "+domain, 501)
		}
	}
}

func TestP115Reset(t *testing.T) {
	for _, s := range inStages(0, 4) {
		expectBack(t, s, expectReply(t, s, "RSET", 250), min(s.Stage, 2))
		for _, line := range []string{"RSET ", "RSET x", " RSET", "rset", "RSETX", "RSET\n"} {
			expectSame(t, s, line, 500)
		}
	}
}

func TestP116LinesWithoutAChange(t *testing.T) {
	for _, s := range inStages(0, 4) {
		expectSame(t, s, "NOOP", 250)
		for _, line := range []string{"XYZ", "noop", "", "NOOP ", "NOOP x", " NOOP", " ", "  ", ".", "..", "ehlo host", "Ehlo host", "quit", "data", "rset", "mail FROM:<amy@host.org>", "rcpt TO:<bob@host.org>", "auth PLAIN AGFteQBhMQ==", "HELO host", "EHLOX host", " EHLO host", "NOOPX", "DATAX"} {
			expectSame(t, s, line, 500)
		}
	}
}

func TestP117Quit(t *testing.T) {
	over := impl.Submission{Stage: 6}
	for _, s := range inStages(0, 4) {
		if next := expectReply(t, s, "QUIT", 221); !sameSubmission(next, over) {
			t.Errorf("QUIT leads to %q", []any{next})
		}
		for _, line := range []string{"QUIT ", "QUIT x", " QUIT", "quit"} {
			expectSame(t, s, line, 500)
		}
	}
	for _, line := range allLines() {
		expectSame(t, over, line, 503)
	}
}

func TestP118Proofs(t *testing.T) {
	for _, users := range fewUserLists() {
		for _, u := range users {
			line := "AUTH PLAIN " + impl.PlainMake(u.Name, u.Pass)
			if next, reply := replied(t, impl.Submission{Stage: 1}, users, "host.org", line); reply != 235 || !sameSubmission(next, staged(2, u.Name, "", "")) {
				t.Errorf("the reply to %q is %d, with %q", line, reply, []any{next})
			}
			for _, s := range fewSubmissions() {
				if next, reply := replied(t, s, users, "host.org", line); s.Stage < 5 && s.Stage != 1 && (reply != 503 || !sameSubmission(next, s)) {
					t.Errorf("after %q, the reply to %q is %d, with %q", []any{s}, line, reply, []any{next})
				}
			}
		}
	}
}

func TestP118ProofsInOtherStages(t *testing.T) {
	for _, s := range inStages(0, 4) {
		for _, line := range []string{"AUTH PLAIN AGFteQBhMQ==", "AUTH PLAIN AGJvYgBiMg==", "AUTH PLAIN AGFteQBiMg==", "AUTH PLAIN x", "AUTH PLAIN", "AUTH LOGIN x", "AUTH", "AUTH "} {
			if s.Stage != 1 {
				expectSame(t, s, line, 503)
			}
		}
	}
}

func TestP119WrongProofs(t *testing.T) {
	hello := impl.Submission{Stage: 1}
	for _, users := range fewUserLists() {
		for _, u := range users {
			for _, pass := range triedPasses(users) {
				if next, reply := replied(t, hello, users, "host.org", "AUTH PLAIN "+proofOf(u.Name, pass)); pass != u.Pass && (reply != 535 || !sameSubmission(next, hello)) {
					t.Errorf("for the password %q of %v, the reply is %d, with %q", pass, u, reply, []any{next})
				}
			}
		}
		for _, text := range userTexts(users) {
			replied(t, hello, users, "host.org", "AUTH PLAIN "+text)
		}
	}
	for _, line := range []string{"AUTH LOGIN x", "AUTH PLAIN", "AUTH", "AUTH ", "AUTH LOGIN", "AUTH LOGIN AGFteQBhMQ==", "AUTH plain AGFteQBhMQ==", "AUTH PLAIN AGFteQBhMQ== ", "AUTH PLAIN  AGFteQBhMQ==", "AUTH  PLAIN AGFteQBhMQ==", "AUTH PLAIN AGFteQBhMQ== x", "AUTH AGFteQBhMQ==", "AUTH   "} {
		expectSame(t, hello, line, 501)
	}
	for _, line := range []string{"AUTH PLAIN ", "AUTH PLAIN x", "AUTH PLAIN AGFteQBiMg==", "AUTH PLAIN AGV2ZQBhMQ==", "AUTH PLAIN AGFteQBhMQ", "AUTH PLAIN AGFteQBhMR=="} {
		expectSame(t, hello, line, 535)
	}
}

func TestP120Senders(t *testing.T) {
	for _, s := range inStages(2, 2) {
		if next := expectReply(t, s, "MAIL FROM:<"+s.User+"@host.org>", 250); !sameSubmission(next, staged(3, s.User, "", "")) {
			t.Errorf("the sender %q leads to %q", s.User, []any{next})
		}
		for _, other := range append(names(), "bob", "cleo", "anyone") {
			if other != s.User {
				expectSame(t, s, "MAIL FROM:<"+other+"@host.org>", 550)
			}
		}
		for _, domain := range domains() {
			if domain != "host.org" {
				expectSame(t, s, "MAIL FROM:<"+s.User+"@"+domain+">", 550)
			}
		}
		for _, path := range []string{"<>", "", " ", s.User, s.User + "@host.org", "<" + s.User + "@host.org", s.User + "@host.org>", " <" + s.User + "@host.org>", "<" + s.User + "@host.org> ", "<" + s.User + ">", "<<>>", "<@>", "<" + s.User + "@host.org>>", "<" + strings.ToUpper(s.User) + "A@host.org>"} {
			expectSame(t, s, "MAIL FROM:"+path, 501)
		}
	}
}

func TestP120SendersInOtherDomains(t *testing.T) {
	user, mail := staged(2, "amy", "", ""), staged(3, "amy", "", "")
	for _, domain := range domains() {
		for _, at := range domains() {
			want, wanted := user, 550
			if at == domain {
				want, wanted = mail, 250
			}
			if next, reply := replied(t, user, hostUsers(), domain, "MAIL FROM:<amy@"+at+">"); reply != wanted || !sameSubmission(next, want) {
				t.Errorf("in the domain %q, the reply to a sender in %q is %d, with %q", domain, at, reply, []any{next})
			}
		}
	}
}

func TestP121SendersInOtherStages(t *testing.T) {
	for _, s := range inStages(0, 4) {
		for _, line := range []string{"MAIL FROM:<amy@host.org>", "MAIL FROM:<" + s.User + "@host.org>", "MAIL FROM:<eve@host>", "MAIL FROM:<>", "MAIL FROM:", "MAIL ", "MAIL", "MAIL x y"} {
			if s.Stage != 2 {
				expectSame(t, s, line, []int{530, 530, 0, 503, 503}[s.Stage])
			}
		}
	}
}

func TestP122Receivers(t *testing.T) {
	for _, s := range inStages(3, 4) {
		for _, u := range hostUsers() {
			line := "RCPT TO:<" + u.Name + "@host.org>"
			if slices.Contains(s.To, u.Name) {
				expectSame(t, s, line, 250)
			} else if len(s.To) == 3 {
				expectSame(t, s, line, 452)
			} else if next := expectReply(t, s, line, 250); !sameSubmission(next, impl.Submission{Stage: 4, User: s.User, To: append(slices.Clone(s.To), u.Name)}) {
				t.Errorf("the line %q leads from %q to %q", line, []any{s}, []any{next})
			}
		}
	}
}

func TestP122ReceiversInAllOrders(t *testing.T) {
	for _, order := range orders([]string{"amy", "bob", "cleo", "dan"}) {
		s := staged(3, "amy", "", "")
		for i, user := range order[:3] {
			for range 2 {
				s = expectReply(t, s, "RCPT TO:<"+user+"@host.org>", 250)
				if s.Stage != 4 || !slices.Equal(s.To, order[:i+1]) {
					t.Errorf("with %v, the submission is %q", order[:i+1], []any{s})
				}
			}
		}
		expectSame(t, s, "RCPT TO:<"+order[3]+"@host.org>", 452)
		for _, user := range order[:3] {
			expectSame(t, s, "RCPT TO:<"+user+"@host.org>", 250)
		}
	}
}

func TestP122ReceiversOfOtherLists(t *testing.T) {
	for _, users := range fewUserLists() {
		for _, s := range inStages(3, 4) {
			for _, name := range append(names(), "amy", "bob", "aa", "anyone") {
				replied(t, s, users, "host.org", "RCPT TO:<"+name+"@host.org>")
			}
		}
	}
}

func TestP123WrongReceivers(t *testing.T) {
	for _, s := range inStages(3, 4) {
		for _, user := range []string{"eve", "anyone", "am", "amyz", "inbox", "a1", "0", "zzzzzzzz"} {
			expectSame(t, s, "RCPT TO:<"+user+"@host.org>", 550)
		}
		for _, domain := range []string{"host", "org", "host.org.x", "x.host.org", "a"} {
			for _, user := range []string{"amy", "bob", "eve"} {
				expectSame(t, s, "RCPT TO:<"+user+"@"+domain+">", 550)
			}
		}
		for _, path := range []string{"<>", "", " ", "bob@host.org", "<bob@host.org", "bob@host.org>", " <bob@host.org>", "<bob@host.org> ", "<bob@host.org>x", "<bob>", "<@host.org>", "<Bob@host.org>", "<bob@host.org>>", "<<bob@host.org>", "<bob@HOST.ORG>", "<>>"} {
			expectSame(t, s, "RCPT TO:"+path, 501)
		}
		for _, line := range []string{"RCPT", "RCPT ", "RCPT  TO:<bob@host.org>", "RCPT to:<bob@host.org>", "RCPT FROM:<bob@host.org>", "RCPT <bob@host.org>"} {
			expectSame(t, s, line, 501)
		}
	}
}

func TestP124ReceiversInOtherStages(t *testing.T) {
	for _, s := range inStages(0, 2) {
		for _, line := range []string{"RCPT TO:<amy@host.org>", "RCPT TO:<bob@host.org>", "RCPT TO:<eve@host.org>", "RCPT TO:<bob@host>", "RCPT TO:<>", "RCPT TO:", "RCPT", "RCPT ", "RCPT x y z"} {
			expectSame(t, s, line, 503)
		}
	}
}

func TestP125Data(t *testing.T) {
	for _, s := range inStages(0, 4) {
		if s.Stage != 4 {
			expectSame(t, s, "DATA", 503)
		} else if next := expectReply(t, s, "DATA", 354); !sameSubmission(next, impl.Submission{Stage: 5, User: s.User, To: s.To}) {
			t.Errorf("DATA leads from %q to %q", []any{s}, []any{next})
		}
		for _, line := range []string{"DATA ", "DATA x", " DATA", "data", "DATA."} {
			expectSame(t, s, line, 500)
		}
	}
}

func TestP126LinesOfTexts(t *testing.T) {
	for _, s := range inStages(5, 5) {
		for _, line := range append(dataLines(), commands()...) {
			if line == "." {
				continue
			}
			text := s.Text + strings.TrimPrefix(line, ".") + "\n"
			next := expectReply(t, s, line, 0)
			if want := (impl.Submission{Stage: 5, User: s.User, To: s.To, Text: text[:min(len(text), 21)]}); !sameSubmission(next, want) {
				t.Errorf("the line %.80q leads from %q to %q", line, []any{s}, []any{next})
			}
		}
	}
}

func TestP126LongTexts(t *testing.T) {
	for n := range 60 {
		for first := range n + 1 {
			s := staged(5, "amy", "bob", "")
			s = expectReply(t, s, strings.Repeat("x", first), 0)
			s = expectReply(t, s, strings.Repeat("y", n-first), 0)
			if want := strings.Repeat("x", first) + "\n" + strings.Repeat("y", n-first) + "\n"; s.Text != want[:min(len(want), 21)] {
				t.Errorf("the text of %d and %d bytes is %q", first, n-first, s.Text)
			}
			expectReply(t, s, ".", map[bool]int{true: 250, false: 552}[n+2 <= 20])
		}
	}
	s := staged(5, "amy", "bob", "one\n")
	for _, sign := range []string{"x", ".", "\n", " ", "\xff"} {
		if next, reply := impl.SubmissionLine(s, hostUsers(), "host.org", "."+strings.Repeat(sign, 3000000)); reply != 0 || next.Text != "one\n"+strings.Repeat(sign, 17) {
			t.Errorf("a very long line of %q is replied to by %d, with the text %.80q", sign, reply, next.Text)
		}
	}
}

func TestP126NumberOfLines(t *testing.T) {
	for _, line := range []string{"", ".x", "..", "ab", "hello bob"} {
		s := staged(5, "amy", "bob", "")
		text := ""
		for range 30 {
			text += strings.TrimPrefix(line, ".") + "\n"
			s = expectReply(t, s, line, 0)
			if s.Text != text[:min(len(text), 21)] {
				t.Errorf("the text of lines %q is %q", line, s.Text)
			}
			expectReply(t, s, ".", map[bool]int{true: 250, false: 552}[len(text) <= 20])
		}
	}
}

func TestP127EndsOfTexts(t *testing.T) {
	for _, s := range inStages(5, 5) {
		want := 250
		if len(s.Text) > impl.MaxText {
			want = 552
		}
		expectBack(t, s, expectReply(t, s, ".", want), 2)
	}
	for n := range 22 {
		s := staged(5, "bob", "bob amy", strings.Repeat("x", n))
		if next := expectReply(t, s, ".", map[bool]int{true: 250, false: 552}[n <= 20]); !sameSubmission(next, staged(2, "bob", "", "")) {
			t.Errorf("a text of %d bytes leads to %q", n, []any{next})
		}
	}
}

func TestP128LinesWithADot(t *testing.T) {
	for _, s := range inStages(5, 5) {
		for _, line := range append(dataLines(), commands()...) {
			if line == "" || line[0] == '.' {
				continue
			}
			if next := expectReply(t, s, "."+line, 0); !sameSubmission(next, expectReply(t, s, line, 0)) {
				t.Errorf("the line %.80q with a dot ahead leads to %q", line, []any{next})
			}
		}
		for n := 2; n < 24; n++ {
			text := s.Text + strings.Repeat(".", n-1) + "\n"
			if next := expectReply(t, s, strings.Repeat(".", n), 0); next.Text != text[:min(len(text), 21)] {
				t.Errorf("a line of %d dots leads to the text %q", n, next.Text)
			}
		}
	}
	if next := expectReply(t, staged(5, "amy", "bob", ""), "..", 0); next.Text != ".\n" {
		t.Errorf("the line .. leads to the text %q", next.Text)
	}
}

func TestP129ValidSubmissions(t *testing.T) {
	for _, users := range [][]impl.User{hostUsers(), usersOf("amy:a1:60 bob:b2:20"), usersOf("eve:e5:0")} {
		for _, s := range append(submissions(), notSubmissions()[:400]...) {
			for _, line := range commands() {
				next, reply := replied(t, s, users, "host.org", line)
				if impl.SubmissionValid(s) != (reply != -1) || !impl.SubmissionValid(next) || s.Stage == 6 && reply == 503 && next.Stage != 6 {
					t.Errorf("the line %q leads from %q to %q, with the reply %d", line, []any{s}, []any{next}, reply)
				}
			}
		}
	}
}

// All submissions to which lines lead, one after the other, are valid. In a text, all lines are alike but for a dot
// and their length.
func TestP129SubmissionsThatAreReached(t *testing.T) {
	texts := []string{".", "..", "hello", strings.Repeat("x", 19)}
	seen := map[string]bool{}
	next := []impl.Submission{{}}
	for len(next) > 0 {
		s := next[0]
		next = next[1:]
		name := strconv.Itoa(s.Stage) + s.User + strings.Join(s.To, ",") + ":" + s.Text
		if seen[name] {
			continue
		}
		seen[name] = true
		lines := append(commands(), texts...)
		if s.Stage == 5 {
			lines = texts
		}
		for _, line := range lines {
			other, _ := replied(t, s, hostUsers(), "host.org", line)
			if !impl.SubmissionValid(other) {
				t.Errorf("the line %q leads from %q to %q", line, []any{s}, []any{other})
			}
			next = append(next, other)
		}
	}
	if len(seen) < 1000 {
		t.Errorf("only %d submissions are reached", len(seen))
	}
}

func TestP130LettersOfSubmissions(t *testing.T) {
	for _, s := range append(submissions(), notSubmissions()...) {
		x, ok := impl.SubmissionLetter(s)
		want, wanted := letterOf(s)
		if ok != wanted || !sameLetter(x, want) {
			t.Errorf("SubmissionLetter(%.200q) is %q, %v", []any{s}, []any{x}, ok)
		}
		if ok && (!impl.LetterValid(x) || x.From != s.User || !slices.Equal(x.To, s.To) || x.Text != s.Text) {
			t.Errorf("SubmissionLetter(%q) is %q", []any{s}, []any{x})
		}
	}
}

func TestP131SubmissionsWithLetters(t *testing.T) {
	for _, s := range append(submissions(), notSubmissions()...) {
		_, ok := impl.SubmissionLetter(s)
		if ok != (impl.SubmissionValid(s) && s.Stage == impl.StageData && len(s.Text) <= impl.MaxText) {
			t.Errorf("SubmissionLetter(%.200q) is %v", []any{s}, ok)
		}
	}
	for n := range 40 {
		if x, ok := impl.SubmissionLetter(staged(5, "amy", "bob amy", strings.Repeat("x", n))); ok != (n <= 20) || !ok && !sameLetter(x, impl.Letter{}) {
			t.Errorf("SubmissionLetter with %d bytes is %q, %v", n, []any{x}, ok)
		}
	}
}

// letters are valid.
func letters() []impl.Letter {
	var list []impl.Letter
	for _, to := range receiverLists() {
		list = append(list, impl.Letter{From: "amy", To: strings.Fields(to), Text: "hello\n"})
	}
	for n := range 21 {
		list = append(list, impl.Letter{From: "bob", To: []string{"amy", "bob"}, Text: strings.Repeat("x", n)})
	}
	for _, name := range append(names(), "anyone") {
		list = append(list, impl.Letter{From: name, To: []string{"amy"}}, impl.Letter{From: "amy", To: []string{name}, Text: ".\n"})
	}
	return list
}

func TestP132Letters(t *testing.T) {
	for _, x := range letters() {
		if !impl.LetterValid(x) || !isLetter(x) {
			t.Errorf("LetterValid(%q) does not hold", []any{x})
		}
		for i, name := range x.To {
			if shorter := slices.Delete(slices.Clone(x.To), i, i+1); impl.LetterValid(impl.Letter{From: x.From, To: shorter, Text: x.Text}) != (len(x.To) > 1) {
				t.Errorf("LetterValid of the receivers %v is wrong", shorter)
			}
			for at := range len(x.To) + 1 {
				if longer := slices.Insert(slices.Clone(x.To), at, name); impl.LetterValid(impl.Letter{From: x.From, To: longer, Text: x.Text}) {
					t.Errorf("LetterValid of the receivers %v holds", longer)
				}
			}
		}
	}
}

// notLetters have one fault each, or lack all of something.
func notLetters() []impl.Letter {
	list := []impl.Letter{{}, {From: "amy"}, {To: []string{"amy"}}, {From: "amy", Text: "x"}, {From: "amy", To: []string{}}}
	for _, to := range notReceivers() {
		list = append(list, impl.Letter{From: "amy", To: to, Text: "hello\n"})
	}
	for _, text := range notNames() {
		list = append(list, impl.Letter{From: text, To: []string{"amy"}, Text: "hello\n"}, impl.Letter{From: text, To: []string{"bob", "cleo", "amy"}})
	}
	for _, text := range append(longTexts(), strings.Repeat("x", 65536), strings.Repeat("x", 65556), strings.Repeat("x", 256)) {
		list = append(list, impl.Letter{From: "amy", To: []string{"bob"}, Text: text}, impl.Letter{From: "bob", To: []string{"bob", "amy", "eve"}, Text: text})
	}
	return list
}

func TestP132LettersThatAreInvalid(t *testing.T) {
	for _, x := range notLetters() {
		if impl.LetterValid(x) || isLetter(x) {
			t.Errorf("LetterValid(%.200q) holds", []any{x})
		}
	}
}

// lettersOfAmy leads to the stage of data, from amy to bob.
func lettersOfAmy() []string {
	return []string{"EHLO host", "AUTH PLAIN AGFteQBhMQ==", "MAIL FROM:<amy@host.org>", "RCPT TO:<bob@host.org>", "DATA"}
}

// namedRuns have the replies and the letters to which their lines lead, with the users of hostUsers in the domain host.org.
var namedRuns = []struct {
	lines   string
	replies []int
	letters []impl.Letter
}{
	{"EHLO host|NOOP|QUIT|NOOP|.|EHLO host", []int{250, 250, 221, 503, 503, 503}, nil},
	{".|..||hello|DATA", []int{500, 500, 500, 500, 503}, nil},
	{"EHLO host|AUTH PLAIN AGFteQBhMQ==|MAIL FROM:<amy@host.org>|RCPT TO:<bob@host.org>|DATA|hello|.", []int{250, 235, 250, 250, 354, 0, 250}, []impl.Letter{{From: "amy", To: []string{"bob"}, Text: "hello\n"}}},
	{"EHLO host|AUTH PLAIN AGFteQBhMQ==|MAIL FROM:<amy@host.org>|RCPT TO:<bob@host.org>|DATA|.|.", []int{250, 235, 250, 250, 354, 250, 500}, []impl.Letter{{From: "amy", To: []string{"bob"}}}},
	{
		"EHLO a|AUTH PLAIN AGJvYgBiMg==|MAIL FROM:<bob@host.org>|RCPT TO:<dan@host.org>|RCPT TO:<bob@host.org>|RCPT TO:<dan@host.org>|RCPT TO:<amy@host.org>|RCPT TO:<cleo@host.org>|RCPT TO:<bob@host.org>|RCPT TO:<eve@host.org>|DATA|one||..|.two|...|QUIT|.|QUIT",
		[]int{250, 235, 250, 250, 250, 250, 250, 452, 250, 550, 354, 0, 0, 0, 0, 0, 0, 250, 221}, []impl.Letter{{From: "bob", To: []string{"dan", "bob", "amy"}, Text: "one\n\n.\ntwo\n..\nQUIT\n"}},
	},
	{
		"EHLO host|AUTH PLAIN AGFteQBhMQ==|MAIL FROM:<amy@host.org>|RCPT TO:<amy@host.org>|DATA|1234567890123456789|.|MAIL FROM:<amy@host.org>|RCPT TO:<bob@host.org>|DATA|12345678901234567890|.|DATA|MAIL FROM:<amy@host.org>|RCPT TO:<cleo@host.org>|RCPT TO:<dan@host.org>|DATA|a|.",
		[]int{250, 235, 250, 250, 354, 0, 250, 250, 250, 354, 0, 552, 503, 250, 250, 250, 354, 0, 250}, []impl.Letter{{From: "amy", To: []string{"amy"}, Text: "1234567890123456789\n"}, {From: "amy", To: []string{"cleo", "dan"}, Text: "a\n"}},
	},
	{
		"MAIL FROM:<amy@host.org>|AUTH PLAIN AGFteQBhMQ==|EHLO host|AUTH PLAIN AGFteQBiMg==|MAIL FROM:<amy@host.org>|AUTH PLAIN AGFteQBhMQ==|MAIL FROM:<bob@host.org>|MAIL FROM:<amy@host>|MAIL FROM:<amy@host.org>|DATA|RCPT TO:<bob@host>|RCPT TO:<bob@host.org>|RSET|RCPT TO:<bob@host.org>|DATA|MAIL FROM:<amy@host.org>|RCPT TO:<amy@host.org>|EHLO host|DATA|MAIL FROM:<amy@host.org>|RCPT TO:<dan@host.org>|DATA|x|.",
		[]int{530, 503, 250, 535, 530, 235, 550, 550, 250, 503, 550, 250, 250, 503, 503, 250, 250, 250, 503, 250, 250, 354, 0, 250}, []impl.Letter{{From: "amy", To: []string{"dan"}, Text: "x\n"}},
	},
	{
		"EHLO host|AUTH PLAIN AGFteQBhMQ==|MAIL FROM:<amy@host.org>|RCPT TO:<bob@host.org>|DATA|12345|6789012|3456||.|.",
		[]int{250, 235, 250, 250, 354, 0, 0, 0, 0, 250, 500}, []impl.Letter{{From: "amy", To: []string{"bob"}, Text: "12345\n6789012\n3456\n\n"}},
	},
	{"EHLO host|AUTH PLAIN AGFteQBhMQ==|MAIL FROM:<amy@host.org>|RCPT TO:<bob@host.org>|DATA|12345|6789012|34567||.|.", []int{250, 235, 250, 250, 354, 0, 0, 0, 0, 552, 500}, nil},
}

// naturalLine returns the line that is next on the way to a letter.
func naturalLine(s impl.Submission, n int) string {
	users := hostUsers()
	u := users[n%4]
	switch s.Stage {
	case 0:
		return "EHLO host"
	case 1:
		return "AUTH PLAIN " + proofOf(u.Name, u.Pass)
	case 2:
		return "MAIL FROM:<" + s.User + "@host.org>"
	case 3:
		return "RCPT TO:<" + u.Name + "@host.org>"
	case 4:
		return []string{"DATA", "RCPT TO:<" + u.Name + "@host.org>"}[n/4%2]
	}
	return []string{".", "hello", "", "..", ".x", "a b"}[n/4%6]
}

// longRuns have lines of all kinds, most of them natural ones, and a QUIT at times.
func longRuns(count int) [][]string {
	others := slices.DeleteFunc(allLines(), func(line string) bool { return line == "QUIT" })
	var list [][]string
	state := 1
	for i := range count {
		var lines []string
		s := impl.Submission{}
		for range i % 50 {
			state = (state*75 + 74) % 65537
			line := naturalLine(s, state/8)
			if state%8 == 0 {
				line = others[state/8%len(others)]
			} else if state%401 == 1 {
				line = "QUIT"
			}
			lines = append(lines, line)
			s, _ = handled(s, hostUsers(), "host.org", line)
		}
		list = append(list, lines)
	}
	return list
}

// shortRuns are all of a few lines, each after those that lead to a text.
func shortRuns() [][]string {
	parts := []string{"DATA", ".", "..", strings.Repeat("x", 19), "RSET", "RCPT TO:<amy@host.org>", "QUIT", "EHLO host", "MAIL FROM:<amy@host.org>"}
	var list [][]string
	for _, text := range shortTexts("012345678", 4) {
		lines := lettersOfAmy()[:4]
		for _, i := range []byte(text) {
			lines = append(lines, parts[i-'0'])
		}
		list = append(list, lines)
	}
	return list
}

func runs() [][]string {
	list := append(longRuns(600), shortRuns()...)
	for _, c := range namedRuns {
		list = append(list, strings.Split(c.lines, "|"))
	}
	return list
}

func TestP133NumberOfReplies(t *testing.T) {
	for _, lines := range runs() {
		if replies, _ := ran(t, hostUsers(), "host.org", lines); len(replies) != len(lines) {
			t.Errorf("SubmissionRun(%q) has %d replies", lines, len(replies))
		}
	}
	for n := range 70 {
		for _, line := range []string{"NOOP", "QUIT", ".", ""} {
			if replies, _ := ran(t, hostUsers(), "host.org", slices.Repeat([]string{line}, n)); len(replies) != n {
				t.Errorf("SubmissionRun of %d lines %q has %d replies", n, line, len(replies))
			}
		}
	}
}

func TestP133InvalidUsersAndDomains(t *testing.T) {
	lines := append(lettersOfAmy(), ".", "QUIT")
	for _, users := range notUserLists() {
		if replies, letters := impl.SubmissionRun(users, "host.org", lines); len(replies) != 0 || len(letters) != 0 {
			t.Errorf("SubmissionRun for %.200v is %v, %q", users, replies, letters)
		}
	}
	for _, domain := range notDomains() {
		if replies, letters := impl.SubmissionRun(hostUsers(), domain, lines); len(replies) != 0 || len(letters) != 0 {
			t.Errorf("SubmissionRun in %q is %v, %q", domain, replies, letters)
		}
	}
	for _, domain := range domains() {
		if replies, letters := ran(t, hostUsers(), domain, lines); len(replies) != 7 || len(letters) != map[bool]int{true: 1}[domain == "host.org"] {
			t.Errorf("SubmissionRun in %q is %v, %q", domain, replies, letters)
		}
	}
}

func TestP134NamedRuns(t *testing.T) {
	for _, c := range namedRuns {
		replies, letters := ran(t, hostUsers(), "host.org", strings.Split(c.lines, "|"))
		if !slices.Equal(replies, c.replies) || !sameLetters(letters, c.letters) {
			t.Errorf("SubmissionRun of %q is %v, %q", c.lines, replies, letters)
		}
	}
}

func TestP134RunsLineByLine(t *testing.T) {
	most := 0
	for _, lines := range runs() {
		replies, letters := ran(t, hostUsers(), "host.org", lines)
		most = max(most, len(letters))
		s := impl.Submission{}
		for i, line := range lines {
			if x, ok := impl.SubmissionLetter(s); ok && line == "." {
				if len(letters) == 0 || !sameLetter(letters[0], x) {
					t.Fatalf("SubmissionRun(%q) does not have the letter %q", lines, []any{x})
				}
				letters = letters[1:]
			}
			next, reply := impl.SubmissionLine(s, hostUsers(), "host.org", line)
			if reply != replies[i] {
				t.Errorf("SubmissionRun(%q) is %v, but the reply to line %d is %d", lines, replies, i, reply)
			}
			s = next
		}
		if len(letters) != 0 {
			t.Errorf("SubmissionRun(%q) has the further letters %q", lines, letters)
		}
	}
	if most < 4 {
		t.Errorf("no run has more than %d letters", most)
	}
}

func TestP134ManyLines(t *testing.T) {
	lines := slices.Concat(lettersOfAmy()[:2], slices.Repeat(append(lettersOfAmy()[2:], "hello", "."), 20000))
	replies, letters := impl.SubmissionRun(hostUsers(), "host.org", lines)
	if len(replies) != len(lines) || len(letters) != 20000 || slices.Contains(replies, 503) {
		t.Fatalf("%d lines have %d replies and %d letters", len(lines), len(replies), len(letters))
	}
	for _, x := range letters {
		if !sameLetter(x, impl.Letter{From: "amy", To: []string{"bob"}, Text: "hello\n"}) {
			t.Fatalf("one of the letters is %q", []any{x})
		}
	}
}

func TestP135FirstLines(t *testing.T) {
	for _, lines := range append(longRuns(150), shortRuns()[:900]...) {
		replies, letters := ran(t, hostUsers(), "host.org", lines)
		for n := range lines {
			first, sent := ran(t, hostUsers(), "host.org", lines[:n])
			if !slices.Equal(first, replies[:n]) || len(sent) > len(letters) || !sameLetters(sent, letters[:len(sent)]) {
				t.Errorf("SubmissionRun of the first %d lines of %q is %v, %q", n, lines, first, sent)
			}
		}
	}
}

func TestP136LettersOfRuns(t *testing.T) {
	for _, users := range [][]impl.User{hostUsers(), usersOf("amy:a1:60 bob:b2:20"), usersOf("amy:a1:60"), usersOf("bob:b2:0 eve:e5:0")} {
		for _, lines := range runs() {
			replies, letters := ran(t, users, "host.org", lines)
			if len(letters) > 0 && !slices.Contains(replies, 235) {
				t.Errorf("SubmissionRun(%q) has letters without a proof: %q", lines, letters)
			}
			for _, x := range letters {
				if !impl.LetterValid(x) || !isCalled(users, x.From) || slices.ContainsFunc(x.To, func(name string) bool { return !isCalled(users, name) }) {
					t.Errorf("SubmissionRun(%q) has the letter %q", lines, []any{x})
				}
			}
		}
	}
}

func TestP136RunsWithoutAProof(t *testing.T) {
	for _, lines := range runs() {
		lines := slices.DeleteFunc(slices.Clone(lines), func(line string) bool { return strings.HasPrefix(line, "AUTH") })
		if replies, letters := ran(t, hostUsers(), "host.org", lines); slices.Contains(replies, 235) || slices.Contains(replies, 354) || len(letters) != 0 {
			t.Errorf("SubmissionRun(%q) is %v, %q", lines, replies, letters)
		}
	}
}

// submissionClone returns a copy with all that lies within the capacity of the receivers.
func submissionClone(s impl.Submission) impl.Submission {
	s.To = slices.Clone(whole(s.To))
	return s
}

func overwriteTexts(list []string) {
	for i := range whole(list) {
		whole(list)[i] = "overwritten"
	}
}

func overwriteUsers(list []impl.User) {
	for i := range whole(list) {
		whole(list)[i] = impl.User{Name: "overwritten", Pass: "overwritten", Quota: -1}
	}
}

func TestSubmissionLineKeepsItsMemory(t *testing.T) {
	for _, plain := range slices.Concat(submissions(), notSubmissions()[:300]) {
		for _, line := range append(commands(), ".", "..", "hello", "EHLO", "") {
			s, users := plain, roomy(hostUsers(), impl.User{Name: "eve", Pass: "e5", Quota: 5})
			s.To = roomy(plain.To, "other")
			before, usersBefore := submissionClone(s), slices.Clone(whole(users))
			next, _ := replied(t, s, users, "host.org", line)
			want := submissionClone(next)
			want.To = want.To[:len(next.To)]
			if !slices.Equal(whole(s.To), before.To) || !slices.Equal(whole(users), usersBefore) {
				t.Errorf("the line %q changes its arguments %q", line, []any{plain})
			}
			overwriteTexts(next.To)
			if !slices.Equal(whole(s.To), before.To) {
				t.Errorf("after the line %q, the result shares memory with %q", line, []any{plain})
			}
			next, _ = impl.SubmissionLine(s, users, "host.org", line)
			overwriteTexts(s.To)
			overwriteUsers(users)
			if !sameSubmission(next, want) {
				t.Errorf("after the line %q, the result %q changes with the arguments %q", line, []any{next}, []any{plain})
			}
		}
	}
}

func TestSubmissionLetterKeepsItsMemory(t *testing.T) {
	for _, plain := range slices.Concat(submissions(), notSubmissions()[:300]) {
		s := plain
		s.To = roomy(plain.To, "other")
		before := submissionClone(s)
		x, _ := impl.SubmissionLetter(s)
		impl.SubmissionValid(s)
		impl.LetterValid(impl.Letter{From: s.User, To: s.To, Text: s.Text})
		if !slices.Equal(whole(s.To), before.To) {
			t.Errorf("SubmissionLetter changes its argument %q", []any{plain})
		}
		overwriteTexts(x.To)
		if !slices.Equal(whole(s.To), before.To) {
			t.Errorf("SubmissionLetter shares memory with its argument %q", []any{plain})
		}
		x, _ = impl.SubmissionLetter(s)
		overwriteTexts(s.To)
		if want, _ := letterOf(plain); !sameLetter(x, want) {
			t.Errorf("the letter %q changes with %q", []any{x}, []any{plain})
		}
	}
}

func TestSubmissionRunKeepsItsMemory(t *testing.T) {
	for _, plain := range append(longRuns(200), append(lettersOfAmy(), ".", lettersOfAmy()[2], lettersOfAmy()[3], "DATA", ".")) {
		lines, users := roomy(plain, "."), roomy(hostUsers(), impl.User{Name: "eve", Pass: "e5", Quota: 5})
		linesBefore, usersBefore := slices.Clone(whole(lines)), slices.Clone(whole(users))
		replies, sent := ran(t, users, "host.org", lines)
		if !slices.Equal(whole(lines), linesBefore) || !slices.Equal(whole(users), usersBefore) {
			t.Errorf("SubmissionRun changes its arguments %q", plain)
		}
		overwriteTexts(lines)
		overwriteUsers(users)
		want, wanted := allHandled(hostUsers(), "host.org", plain)
		if !slices.Equal(replies, want) || !sameLetters(sent, wanted) {
			t.Errorf("the results change with the lines %q", plain)
		}
	}
}

// Each list of receivers is overwritten, up to its capacity, by another name; none of the others changes then.
func TestLettersOfARunShareNoMemory(t *testing.T) {
	for _, lines := range append(longRuns(300), append(lettersOfAmy(), ".", lettersOfAmy()[2], lettersOfAmy()[3], "DATA", ".")) {
		_, sent := impl.SubmissionRun(hostUsers(), "host.org", lines)
		for i, x := range sent {
			for at := range whole(x.To) {
				whole(x.To)[at] = "letter" + strconv.Itoa(i)
			}
		}
		for i, x := range sent {
			if slices.ContainsFunc(whole(x.To), func(name string) bool { return name != "letter"+strconv.Itoa(i) }) {
				t.Errorf("the letters of %q share memory", lines)
			}
		}
	}
}

func TestSubmissionsOfNilAndEmptySlices(t *testing.T) {
	lists := [][]string{{}, make([]string, 0, 5), strings.Fields("amy bob")[:0]}
	for stage := -1; stage < 8; stage++ {
		for _, user := range []string{"", "amy"} {
			for _, empty := range lists {
				none, s := impl.Submission{Stage: stage, User: user}, impl.Submission{Stage: stage, User: user, To: empty}
				if impl.SubmissionValid(s) != impl.SubmissionValid(none) || impl.LetterValid(impl.Letter{From: user, To: empty}) {
					t.Errorf("SubmissionValid or LetterValid is wrong for an empty list in the stage %d", stage)
				}
				for _, line := range append(commands(), ".", "x", "") {
					want, wanted := replied(t, none, hostUsers(), "host.org", line)
					if next, reply := replied(t, s, hostUsers(), "host.org", line); reply != wanted || !sameSubmission(next, want) {
						t.Errorf("with an empty list in the stage %d, the reply to %q is %d", stage, line, reply)
					}
				}
				if x, ok := impl.SubmissionLetter(s); ok || !sameLetter(x, impl.Letter{}) {
					t.Errorf("SubmissionLetter with an empty list in the stage %d is %q", stage, []any{x})
				}
			}
		}
	}
}

func TestRunsOfNilAndEmptySlices(t *testing.T) {
	for _, lines := range [][]string{nil, {}, make([]string, 0, 5), lettersOfAmy()[:0]} {
		if replies, sent := ran(t, hostUsers(), "host.org", lines); len(replies) != 0 || len(sent) != 0 {
			t.Errorf("without lines, SubmissionRun is %v, %q", replies, sent)
		}
	}
	for _, users := range [][]impl.User{nil, {}, make([]impl.User, 0, 5), hostUsers()[:0]} {
		if replies, sent := ran(t, users, "host.org", lettersOfAmy()); len(replies) != 0 || len(sent) != 0 {
			t.Errorf("without users, SubmissionRun is %v, %q", replies, sent)
		}
		replied(t, impl.Submission{}, users, "host.org", "NOOP")
	}
}

// The bubble of synctest ends only if no goroutine that was begun in it is left over.
func TestGoroutinesOfRunsAreJoined(t *testing.T) {
	synctest.Test(t, func(t *testing.T) {
		for _, lines := range append(longRuns(100), nil, slices.Repeat([]string{"QUIT"}, 1000)) {
			ran(t, hostUsers(), "host.org", lines)
			impl.SubmissionRun(nil, "host.org", lines)
			impl.SubmissionRun(hostUsers(), "", lines)
		}
	})
	before := runtime.NumGoroutine()
	for range 200 {
		impl.SubmissionRun(hostUsers(), "host.org", slices.Repeat([]string{"QUIT"}, 100))
	}
	expectGoroutines(t, before)
}

// expectGoroutines checks that there are no more goroutines than before; one that was joined may take a while to end.
func expectGoroutines(t *testing.T, before int) {
	t.Helper()
	for range 1000000 {
		if runtime.NumGoroutine() <= before {
			return
		}
		runtime.Gosched()
	}
	t.Errorf("there are %d goroutines, and there were %d", runtime.NumGoroutine(), before)
}

// The same lines have the same results, however the goroutines of several runs take turns.
func TestRunsAtTheSameTime(t *testing.T) {
	lines := longRuns(50)[49]
	users := hostUsers()
	want, wanted := allHandled(users, "host.org", lines)
	var all sync.WaitGroup
	for range 50 {
		all.Go(func() {
			for range 20 {
				if replies, sent := impl.SubmissionRun(users, "host.org", lines); !slices.Equal(replies, want) || !sameLetters(sent, wanted) {
					t.Errorf("SubmissionRun(%q) is %v, %q", lines, replies, sent)
				}
			}
		})
	}
	all.Wait()
}
