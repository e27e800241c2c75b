package tests

import (
	"math"
	"slices"
	"strings"
	"testing"

	"loop.example/mailhost/impl"
)

// A second definition of flags, against which the program is held: each flag with its name, in the order of the document.
var flagList = []struct {
	flag int
	name string
}{{1, "Seen"}, {2, "Answered"}, {4, "Flagged"}, {8, "Deleted"}, {16, "Draft"}}

func isFlags(n int) bool {
	return 0 <= n && n <= 31
}

// hasFlag reports whether a flag is one of those whose sum is flags.
func hasFlag(flags int, flag int) bool {
	return flags/flag%2 == 1
}

// namesOf returns the names of flags, in the order of the document.
func namesOf(flags int) []string {
	var list []string
	for _, f := range flagList {
		if hasFlag(flags, f.flag) {
			list = append(list, f.name)
		}
	}
	return list
}

func inBrackets(names []string) string {
	return "(" + strings.Join(names, " ") + ")"
}

// orders returns all orders of a list.
func orders(list []string) [][]string {
	if len(list) == 0 {
		return [][]string{nil}
	}
	var all [][]string
	for i, first := range list {
		others := slices.Delete(slices.Clone(list), i, i+1)
		for _, rest := range orders(others) {
			all = append(all, append([]string{first}, rest...))
		}
	}
	return all
}

// flagTexts returns the flags of all texts that there are, with names in every order.
func flagTexts() map[string]int {
	texts := map[string]int{}
	for flags := range 32 {
		for _, names := range orders(namesOf(flags)) {
			texts[inBrackets(names)] = flags
		}
	}
	return texts
}

// notFlags are numbers that are not flags: both beside the range, those that are flags in their last bits, and the limits of int.
func notFlags() []int {
	list := []int{math.MinInt, math.MinInt + 1, math.MinInt + 31, math.MinInt32, math.MaxInt32, math.MaxUint32, math.MaxInt - 31, math.MaxInt - 1, math.MaxInt, 1 << 32, 1<<32 + 1, 1<<32 + 31, 1 << 62}
	for n := 1; n <= 40; n++ {
		list = append(list, -n, 31+n, 256+n, -256+n)
	}
	return append(list, 63, 64, 100, 127, 128, 255, 256, -63, -64, -128)
}

// anyNumbers are all flags and numbers that are not flags.
func anyNumbers() []int {
	list := notFlags()
	for flags := range 32 {
		list = append(list, flags)
	}
	return list
}

// badHows are no kinds of changes.
func badHows() []int {
	return []int{math.MinInt, math.MinInt + 1, -1 << 32, -256, -255, -3, -2, 2, 3, 4, 8, 16, 31, 255, 256, 257, 1 << 32, 1<<32 + 1, 1<<32 - 1, math.MaxInt - 1, math.MaxInt}
}

// changed is a second definition of a change, one flag after the other.
func changed(flags int, how int, others int) int {
	if !isFlags(flags) || !isFlags(others) || how < -1 || how > 1 {
		return -1
	}
	sum := 0
	for _, f := range flagList {
		has := hasFlag(others, f.flag)
		if how != 0 && hasFlag(flags, f.flag) {
			has = how == 1 || !has
		} else if how == -1 {
			has = false
		}
		if has {
			sum += f.flag
		}
	}
	return sum
}

// badFlagTexts are invalid: wrong brackets, wrong blanks, wrong names, and names twice.
func badFlagTexts() []string {
	list := []string{
		"", " ", "(", ")", ")(", "( )", "(  )", "((", "))", "(()", "())", "(())", "()()", "() ()", " ()", "() ", "()\n", "\n()", "(\n)", "(\x00)", "\x00", "\xff", "(\xff)", "[]", "{}", "<>", "(-)", "(0)", "(1)", "(31)", "0", "31",
		"(Seen", "Seen)", "Seen", "Seen Draft", "(Seen Draft", "Seen Draft)", "((Seen)", "(Seen))", "((Seen))", ")Seen(", "(Seen)(Draft)", "(Seen) (Draft)", "(Seen)()", "()(Seen)", "(Seen(Draft))", "[Seen]", "{Seen}", "<Seen>", "\"(Seen)\"",
		" (Seen)", "(Seen) ", "x(Seen)", "(Seen)x", "( Seen)", "(Seen )", "( Seen )", "(Seen  Draft)", "(SeenDraft)", "(Seen Draft )", "( Seen Draft)", "(Seen,Draft)", "(Seen, Draft)", "(Seen\tDraft)", "(Seen\nDraft)", "(Seen\u00a0Draft)", "(Seen\x00Draft)",
		"(Seen Seen)", "(Draft Draft)", "(Seen Draft Seen)", "(Seen Seen Draft)", "(Draft Seen Seen)", "(Seen Answered Flagged Deleted Draft Seen)", "(Seen Answered Flagged Deleted Draft Draft)",
		"(seen)", "(SEEN)", "(sEEN)", "(SeeN)", "(answered)", "(flagged)", "(deleted)", "(draft)", "(DRAFT)", "(Seen draft)", "(seen Draft)",
		"(Recent)", "(Seen Recent)", "(Recent Seen)", "(\\Seen)", "(Seen \\Draft)", "(Unseen)", "(Seenx)", "(xSeen)", "(Drafts)", "(Flag)", "(Flags)", "(Delete)", "(Answer)", "(S)", "(D)", "(Seen D)", "(D Seen)", "(Śeen)", "(Ｓeen)", "(Seen\xff)", "(\xffSeen)",
		"(FlagSeen)", "(All)", "(FlagsAll)", "(Seen) (Seen)", "(Seen)\n", "(Seen)\x00", "\x00(Seen)", "(Seen\n)",
	}
	for _, f := range flagList {
		for n := range len(f.name) {
			list = append(list, "("+f.name[:n]+")x", "(Seen "+f.name[:n]+")", "("+f.name[:n]+" Seen)", "(Seen "+f.name[n+1:]+")", "("+f.name[n+1:]+" Seen)")
		}
		for n := 1; n < len(f.name); n++ {
			list = append(list, "("+f.name[:n]+")", "("+f.name[n:]+")", "("+f.name[:n]+" "+f.name[n:]+")")
		}
		list = append(list, "("+f.name+" "+f.name+")", "("+f.name+f.name+")", "("+strings.ToLower(f.name)+")", "("+strings.ToUpper(f.name)+")", f.name, "("+f.name, f.name+")")
	}
	long := strings.Repeat("Seen ", 100000)
	return append(list, "("+long+"Seen)", "("+long, long, strings.Repeat("(", 100000), strings.Repeat(" ", 100000), "("+strings.Repeat(" ", 100000)+")", "("+strings.Repeat("Seen", 100000)+")")
}

// expectFlags checks FlagsParse of a text of flags, and of any other text.
func expectFlags(t *testing.T, texts map[string]int, text string) {
	t.Helper()
	want, valid := texts[text]
	if flags, ok := impl.FlagsParse(text); ok != valid || flags != want {
		t.Errorf("FlagsParse(%.80q) is %d, %v", text, flags, ok)
	}
}

func expectNoFlags(t *testing.T, text string) {
	t.Helper()
	expectFlags(t, nil, text)
}

func TestConstantsOfFlags(t *testing.T) {
	all := []int{impl.FlagSeen, impl.FlagAnswered, impl.FlagFlagged, impl.FlagDeleted, impl.FlagDraft, impl.FlagsAll}
	if !slices.Equal(all, []int{1, 2, 4, 8, 16, 31}) {
		t.Errorf("the flags are %v", all)
	}
}

func TestP42FlagsOfTexts(t *testing.T) {
	for flags := range 32 {
		text := impl.FlagsText(flags)
		if again, ok := impl.FlagsParse(text); !ok || again != flags {
			t.Errorf("FlagsParse(%q) is %d, %v", text, again, ok)
		}
	}
}

func TestP42NamedTexts(t *testing.T) {
	for flags, text := range map[int]string{
		0: "()", 1: "(Seen)", 2: "(Answered)", 4: "(Flagged)", 8: "(Deleted)", 16: "(Draft)",
		3: "(Seen Answered)", 17: "(Seen Draft)", 24: "(Deleted Draft)", 10: "(Answered Deleted)", 7: "(Seen Answered Flagged)", 21: "(Seen Flagged Draft)",
		15: "(Seen Answered Flagged Deleted)", 30: "(Answered Flagged Deleted Draft)", 31: "(Seen Answered Flagged Deleted Draft)",
	} {
		if got := impl.FlagsText(flags); got != text {
			t.Errorf("FlagsText(%d) is %q", flags, got)
		}
		if got, ok := impl.FlagsParse(text); !ok || got != flags {
			t.Errorf("FlagsParse(%q) is %d, %v", text, got, ok)
		}
	}
}

func TestP43TextsOfFlags(t *testing.T) {
	for flags := range 32 {
		text := impl.FlagsText(flags)
		if text != inBrackets(namesOf(flags)) || (text == "()") != (flags == 0) {
			t.Errorf("FlagsText(%d) is %q", flags, text)
		}
	}
	for _, n := range notFlags() {
		if text := impl.FlagsText(n); text != "" {
			t.Errorf("FlagsText(%d) is %q", n, text)
		}
	}
	for n := -2000; n <= 2000; n++ {
		if (impl.FlagsText(n) == "") == isFlags(n) {
			t.Errorf("FlagsText(%d) is %q", n, impl.FlagsText(n))
		}
	}
}

func TestP44NamesInEveryOrder(t *testing.T) {
	texts := flagTexts()
	if len(texts) != 326 {
		t.Fatalf("there are %d texts", len(texts))
	}
	for text, flags := range texts {
		expectFlags(t, texts, text)
		written := impl.FlagsText(flags)
		if again, ok := impl.FlagsParse(written); len(written) != len(text) || !ok || again != flags {
			t.Errorf("FlagsText of the flags of %q is %q, with the flags %d, %v", text, written, again, ok)
		}
	}
}

func TestP44TextsOfNoFlags(t *testing.T) {
	for _, text := range badFlagTexts() {
		expectNoFlags(t, text)
	}
}

func TestP44ShortTextsOfNames(t *testing.T) {
	texts := flagTexts()
	parts := []string{"(", ")", " ", "Seen", "Draft", "Deleted", "seen"}
	for _, text := range shortTexts("0123456", 6) {
		whole := ""
		for _, i := range []byte(text) {
			whole += parts[i-'0']
		}
		expectFlags(t, texts, whole)
		expectFlags(t, texts, "("+whole+")")
	}
}

func TestP44OtherBytesInTexts(t *testing.T) {
	texts := flagTexts()
	for _, text := range []string{"()", "(Seen)", "(Draft Seen)", "(Answered Deleted)", "(Seen Answered Flagged Deleted Draft)", "(Draft Deleted Flagged Answered Seen)"} {
		for i := range text {
			expectFlags(t, texts, text[:i]+text[i+1:])
			expectFlags(t, texts, text[:i])
			expectFlags(t, texts, text[i+1:])
		}
		for b := range 256 {
			other := string([]byte{byte(b)})
			for _, s := range withPut(text, other) {
				expectFlags(t, texts, s)
			}
			for i := range text {
				expectFlags(t, texts, text[:i]+other+text[i+1:])
			}
		}
	}
}

func TestP45NamesTwice(t *testing.T) {
	for flags := 1; flags < 32; flags++ {
		for _, names := range orders(namesOf(flags)) {
			expectNoFlags(t, inBrackets(slices.Concat(names, names)))
			expectNoFlags(t, inBrackets(slices.Concat(names, namesOf(flags))))
			for i, name := range names {
				expectNoFlags(t, inBrackets(slices.Insert(slices.Clone(names), i, name)))
				expectNoFlags(t, inBrackets(append(slices.Clone(names), name)))
				expectNoFlags(t, inBrackets(append([]string{name}, names...)))
			}
		}
	}
}

func TestP46SeenBehindOthers(t *testing.T) {
	for text, flags := range flagTexts() {
		if hasFlag(flags, impl.FlagSeen) {
			continue
		}
		longer := strings.TrimSuffix(text, ")") + " Seen)"
		if flags == 0 {
			longer = "(Seen)"
			expectNoFlags(t, "( Seen)")
		}
		if got, ok := impl.FlagsParse(longer); !ok || got != flags+impl.FlagSeen {
			t.Errorf("FlagsParse(%q) is %d, %v", longer, got, ok)
		}
	}
}

func TestP47FlagsSet(t *testing.T) {
	for flags := range 32 {
		for others := range 32 {
			set := impl.FlagsChange(flags, 1, others)
			if !impl.FlagsHave(set, flags) || !impl.FlagsHave(set, others) || set != changed(flags, 1, others) {
				t.Errorf("FlagsChange(%d, 1, %d) is %d", flags, others, set)
			}
		}
	}
}

func TestP48FlagsRemoved(t *testing.T) {
	for flags := range 32 {
		for others := range 32 {
			left := impl.FlagsChange(flags, -1, others)
			for _, f := range flagList {
				if hasFlag(others, f.flag) && impl.FlagsHave(left, f.flag) {
					t.Errorf("FlagsChange(%d, -1, %d) has %d", flags, others, f.flag)
				}
			}
			if !impl.FlagsHave(flags, left) || impl.FlagsChange(left, 1, others) != impl.FlagsChange(flags, 1, others) || left != changed(flags, -1, others) {
				t.Errorf("FlagsChange(%d, -1, %d) is %d", flags, others, left)
			}
		}
	}
}

func TestP49FlagsReplaced(t *testing.T) {
	for flags := range 32 {
		for others := range 32 {
			if got := impl.FlagsChange(flags, 0, others); got != others {
				t.Errorf("FlagsChange(%d, 0, %d) is %d", flags, others, got)
			}
		}
	}
}

func TestP50ChangesAgain(t *testing.T) {
	for how := -1; how <= 1; how++ {
		for flags := range 32 {
			for others := range 32 {
				once := impl.FlagsChange(flags, how, others)
				if again := impl.FlagsChange(once, how, others); once == -1 || again != once {
					t.Errorf("FlagsChange(%d, %d, %d) is %d, and then %d", flags, how, others, once, again)
				}
			}
		}
	}
}

func TestP51FlagsExchanged(t *testing.T) {
	for _, flags := range anyNumbers() {
		for _, others := range anyNumbers() {
			if got, other := impl.FlagsChange(flags, 1, others), impl.FlagsChange(others, 1, flags); got != other {
				t.Errorf("FlagsChange of %d and %d is %d, and %d", flags, others, got, other)
			}
		}
	}
}

func TestP52AllChanges(t *testing.T) {
	for _, how := range append(badHows(), -1, 0, 1) {
		for _, flags := range anyNumbers() {
			for _, others := range anyNumbers() {
				if got := impl.FlagsChange(flags, how, others); got != changed(flags, how, others) {
					t.Errorf("FlagsChange(%d, %d, %d) is %d", flags, how, others, got)
				}
			}
		}
	}
}

func TestP52NamedChanges(t *testing.T) {
	for _, c := range []struct{ flags, how, others, want int }{
		{0, 1, 0, 0}, {0, 0, 0, 0}, {0, -1, 0, 0}, {5, 1, 0, 5}, {5, -1, 0, 5}, {5, 0, 0, 0}, {0, 1, 5, 5}, {0, -1, 5, 0}, {0, 0, 5, 5},
		{3, 1, 6, 7}, {3, -1, 6, 1}, {3, 0, 6, 6}, {1, 1, 16, 17}, {1, -1, 16, 1}, {17, -1, 16, 1}, {17, 1, 16, 17},
		{31, 1, 31, 31}, {31, -1, 31, 0}, {31, 0, 31, 31}, {31, -1, 8, 23}, {0, 1, 31, 31},
		{3, 2, 6, -1}, {3, -2, 6, -1}, {-1, 1, 6, -1}, {32, 1, 6, -1}, {3, 1, -1, -1}, {3, 1, 32, -1}, {-1, 0, 6, -1}, {32, 0, 6, -1}, {3, 0, -1, -1}, {3, 0, 32, -1}, {-1, -1, 6, -1}, {32, -1, 6, -1}, {3, -1, -1, -1}, {3, -1, 32, -1}, {-1, 2, -1, -1}, {32, 5, 32, -1},
	} {
		if got := impl.FlagsChange(c.flags, c.how, c.others); got != c.want {
			t.Errorf("FlagsChange(%d, %d, %d) is %d, not %d", c.flags, c.how, c.others, got, c.want)
		}
	}
}

func TestP53FlagsHad(t *testing.T) {
	for flags := range 32 {
		for _, others := range anyNumbers() {
			if impl.FlagsHave(flags, others) != (impl.FlagsChange(flags, 1, others) == flags) {
				t.Errorf("FlagsHave(%d, %d) is %v", flags, others, impl.FlagsHave(flags, others))
			}
		}
	}
}

func TestP53EachFlagHad(t *testing.T) {
	for _, flags := range anyNumbers() {
		for _, others := range anyNumbers() {
			want := isFlags(flags) && isFlags(others)
			for _, f := range flagList {
				want = want && (hasFlag(flags, f.flag) || !hasFlag(others, f.flag))
			}
			if impl.FlagsHave(flags, others) != want {
				t.Errorf("FlagsHave(%d, %d) is %v", flags, others, !want)
			}
		}
	}
}

func TestP54ThemselvesAndNone(t *testing.T) {
	for flags := range 32 {
		if !impl.FlagsHave(flags, flags) || !impl.FlagsHave(flags, 0) || !impl.FlagsHave(impl.FlagsAll, flags) {
			t.Errorf("the flags %d have not themselves or 0, or FlagsAll has them not", flags)
		}
		if impl.FlagsHave(0, flags) != (flags == 0) || impl.FlagsHave(flags, impl.FlagsAll) != (flags == impl.FlagsAll) {
			t.Errorf("0 has the flags %d, or they have FlagsAll", flags)
		}
	}
	for _, n := range notFlags() {
		for _, flags := range anyNumbers() {
			if impl.FlagsHave(flags, n) || impl.FlagsHave(n, flags) {
				t.Errorf("FlagsHave holds for %d and %d", flags, n)
			}
		}
	}
}
