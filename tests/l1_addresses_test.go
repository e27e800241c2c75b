package tests

import (
	"regexp"
	"strings"
	"testing"

	"loop.example/mailhost/impl"
)

// A second definition of names and domains, against which the program is held.
var (
	namePattern   = regexp.MustCompile(`\A[a-z0-9]{1,8}\z`)
	domainPattern = regexp.MustCompile(`\A[a-z0-9]{1,8}(\.[a-z0-9]{1,8}){0,2}\z`)
)

func isName(s string) bool {
	return namePattern.MatchString(s)
}

func isDomain(s string) bool {
	return len(s) <= 20 && domainPattern.MatchString(s)
}

// names are valid; between them they have the first and the last letter and digit, and both limits of the length.
func names() []string {
	return []string{"a", "z", "0", "9", "az", "09", "amy", "bob7", "7bob", "maxname", "abcdefgh", "zzzzzzzz", "01234567"}
}

// notNames are invalid; the signs are those beside the letters and digits in ASCII, and digits and letters beyond it.
func notNames() []string {
	list := []string{"", "abcdefghi", "012345678", strings.Repeat("a", 300), "Amy", "amY", "AMY"}
	for _, sign := range []string{"-", "_", ".", "@", " ", "<", ">", "/", ":", "`", "{", "\x00", "\n", "\x7f", "\x80", "\xff", "é", "ａ", "٣", "世"} {
		list = append(list, sign, sign+"a", "a"+sign, "a"+sign+"b")
	}
	return list
}

// domains are valid, with one to three names and both limits of the length.
func domains() []string {
	return []string{
		"a", "0", "org", "abcdefgh", "host.org", "a.b", "9.z", "abcdefgh.abcdefgh",
		"a.b.c", "mail.host.org", "a.abcdefgh.abcdefgh", "abcdefgh.a.abcdefgh", "abcdefgh.abcdefgh.a",
		"abcdefgh.abcdefgh.ab", "ab.abcdefgh.abcdefgh", "abcdefgh.ab.abcdefgh", "abcdef.abcdef.abcdef",
	}
}

// notDomains are invalid: empty names, a fourth name, names and domains too long, and other signs.
func notDomains() []string {
	list := []string{
		".", "..", "...", ".a", "a.", ".a.b", "a.b.", "a..b", "a..b.c", "a.b..c", "a.b.c.", ".a.b.c", "..a", "a..", ".a.",
		"a.b.c.d", "a.b.c.d.e", "a.b.c..", "abcdefghi.a", "a.abcdefghi", "a.b.abcdefghi",
		"abcdefgh.abcdefgh.abc", "abc.abcdefgh.abcdefgh", "abcdefgh.abc.abcdefgh", "abcdefgh.abcdefgh.abcdefgh",
		"abcdefg.abcdef.abcdef", "Host.org", "host.Org", "a b.c", " a.b", "a.b ", "a,b", "a.b@c", "a.é", "a.\xff",
	}
	for _, s := range notNames() {
		if !strings.Contains(s, ".") {
			list = append(list, s)
		}
	}
	return list
}

func addresses() []string {
	var list []string
	for _, user := range names() {
		for _, domain := range domains() {
			list = append(list, user+"@"+domain)
		}
	}
	return list
}

func notAddresses() []string {
	list := []string{"", "@", "@@", "amy", "host.org", "amy@", "@host.org", "amy@@host.org", "amy@host@org", "@amy@host.org", "amy@host.org@", "amy host.org", " amy@host.org", "amy@host.org ", "amy @host.org", "amy@ host.org", "amy.b@host.org", "<amy@host.org>", "amy@host.org>", "<amy@host.org"}
	for _, user := range notNames() {
		list = append(list, user+"@host.org")
	}
	for _, domain := range notDomains() {
		list = append(list, "amy@"+domain)
	}
	return list
}

// shortTexts returns all texts of at most most signs of an alphabet.
func shortTexts(alphabet string, most int) []string {
	list := []string{""}
	last := list
	for range most {
		var next []string
		for _, s := range last {
			for i := range len(alphabet) {
				next = append(next, s+alphabet[i:i+1])
			}
		}
		list = append(list, next...)
		last = next
	}
	return list
}

// withPut returns all texts in which a part is put in somewhere.
func withPut(s string, part string) []string {
	var list []string
	for i := 0; i <= len(s); i++ {
		list = append(list, s[:i]+part+s[i:])
	}
	return list
}

func TestConstantsOfAddresses(t *testing.T) {
	if impl.MaxName != 8 || impl.MaxDomain != 20 {
		t.Errorf("the limits are %d and %d", impl.MaxName, impl.MaxDomain)
	}
}

func TestP1NameLength(t *testing.T) {
	for n := 1; n < 20; n++ {
		name := strings.Repeat("x", n)
		if impl.NameValid(name) != (n <= impl.MaxName) {
			t.Errorf("NameValid of %d bytes is wrong", n)
		}
	}
	for _, name := range names() {
		if !impl.NameValid(name) {
			t.Errorf("NameValid(%q) does not hold", name)
		}
		for letter := 'a'; letter <= 'z'; letter++ {
			longer := name + string(letter)
			if impl.NameValid(longer) != (len(longer) <= impl.MaxName) {
				t.Errorf("NameValid(%q) is wrong", longer)
			}
		}
	}
}

func TestP2OtherSignsInNames(t *testing.T) {
	for _, name := range []string{"a", "0", "amy", "amy9", "abcdefg"} {
		for b := range 256 {
			sign := string([]byte{byte(b)})
			for _, s := range withPut(name, sign) {
				if impl.NameValid(s) != isName(sign) {
					t.Errorf("NameValid(%q) is wrong", s)
				}
			}
		}
	}
	for _, s := range notNames() {
		if impl.NameValid(s) {
			t.Errorf("NameValid(%q) holds", s)
		}
	}
}

func TestP3PartsOfNames(t *testing.T) {
	for _, name := range names() {
		for i := range name {
			for j := i + 1; j <= len(name); j++ {
				if !impl.NameValid(name[i:j]) {
					t.Errorf("NameValid(%q) does not hold", name[i:j])
				}
			}
		}
	}
	if impl.NameValid("") {
		t.Error("the empty name is valid")
	}
}

func TestP4DomainsBeginWithNames(t *testing.T) {
	for _, s := range append(domains(), notDomains()...) {
		if impl.DomainValid(s) != isDomain(s) {
			t.Errorf("DomainValid(%q) is wrong", s)
		}
	}
	for n := 1; n <= impl.MaxName+1; n++ {
		s := "abcdefgh.abcdefgh." + strings.Repeat("c", n)
		if impl.DomainValid(s) != (len(s) <= impl.MaxDomain) {
			t.Errorf("DomainValid of %d bytes is wrong", len(s))
		}
	}
	for _, s := range shortTexts("a0.A@", 7) {
		ok := impl.DomainValid(s)
		if ok != isDomain(s) {
			t.Errorf("DomainValid(%q) is %v", s, ok)
		}
		first, _, _ := strings.Cut(s, ".")
		if ok && !impl.NameValid(first) {
			t.Errorf("DomainValid(%q) holds, but not NameValid(%q)", s, first)
		}
	}
}

func TestP5NamesAreDomains(t *testing.T) {
	for _, name := range names() {
		if !impl.DomainValid(name) {
			t.Errorf("DomainValid(%q) does not hold", name)
		}
		if impl.DomainValid(name + ".") {
			t.Errorf("DomainValid(%q) holds", name+".")
		}
	}
}

func TestP6DotsAroundDomains(t *testing.T) {
	for _, domain := range domains() {
		for _, s := range []string{"." + domain, domain + ".", "." + domain + ".", "a.b.c." + domain} {
			if impl.DomainValid(s) {
				t.Errorf("DomainValid(%q) holds", s)
			}
		}
		for i, sign := range domain {
			if s := domain[:i] + "." + domain[i:]; sign == '.' && impl.DomainValid(s) {
				t.Errorf("DomainValid(%q) holds", s)
			}
		}
	}
}

func TestP7DomainsOfTwoAndThreeNames(t *testing.T) {
	for _, first := range names() {
		for _, second := range names() {
			for _, s := range []string{first + "." + second, "a." + first + "." + second} {
				if !impl.DomainValid(s) {
					t.Errorf("DomainValid(%q) does not hold", s)
				}
			}
		}
	}
}

func TestP8TextOfParsedAddresses(t *testing.T) {
	for _, text := range addresses() {
		a, ok := impl.AddressParse(text)
		if !ok || impl.AddressText(a) != text {
			t.Errorf("AddressParse(%q) is %v, %v", text, a, ok)
		}
	}
	for _, text := range notAddresses() {
		if a, ok := impl.AddressParse(text); ok || a != (impl.Address{}) {
			t.Errorf("AddressParse(%q) is %v, %v", text, a, ok)
		}
	}
}

func TestP9AddressesOfTexts(t *testing.T) {
	users := append(names(), notNames()...)
	hosts := append(domains(), notDomains()...)
	for _, user := range users {
		for _, domain := range hosts {
			a := impl.Address{User: user, Domain: domain}
			text := impl.AddressText(a)
			if valid := isName(user) && isDomain(domain); !valid && text != "" || valid && text != user+"@"+domain {
				t.Errorf("AddressText(%v) is %q", a, text)
			}
			if text == "" {
				continue
			}
			if b, ok := impl.AddressParse(text); !ok || b != a {
				t.Errorf("AddressParse(%q) is %v, %v", text, b, ok)
			}
		}
	}
}

func TestP10AddressParts(t *testing.T) {
	for _, text := range append(shortTexts("a.@A9", 7), append(addresses(), notAddresses()...)...) {
		a, ok := impl.AddressParse(text)
		if !ok && a != (impl.Address{}) {
			t.Errorf("AddressParse(%q) fails with %v", text, a)
		}
		user, domain, _ := strings.Cut(text, "@")
		want := strings.Count(text, "@") == 1 && isName(user) && isDomain(domain)
		if ok != want || ok && a != (impl.Address{User: user, Domain: domain}) {
			t.Errorf("AddressParse(%q) is %v, %v", text, a, ok)
		}
	}
}

func TestP11SecondAtSign(t *testing.T) {
	for _, text := range addresses() {
		for _, s := range withPut(text, "@") {
			if a, ok := impl.AddressParse(s); ok || a != (impl.Address{}) {
				t.Errorf("AddressParse(%q) is %v, %v", s, a, ok)
			}
		}
	}
}

func TestP12TextOfPaths(t *testing.T) {
	for _, text := range shortTexts("<>@a.B", 7) {
		a, ok := impl.PathParse(text)
		switch {
		case text == "<>":
			if !ok || a != (impl.Address{}) {
				t.Errorf("PathParse of the empty path is %v, %v", a, ok)
			}
		case ok && "<"+impl.AddressText(a)+">" != text:
			t.Errorf("PathParse(%q) is %v", text, a)
		case !ok && a != (impl.Address{}):
			t.Errorf("PathParse(%q) fails with %v", text, a)
		}
	}
}

func TestP13PathsOfAddresses(t *testing.T) {
	for _, text := range addresses() {
		user, domain, _ := strings.Cut(text, "@")
		if a, ok := impl.PathParse("<" + text + ">"); !ok || a != (impl.Address{User: user, Domain: domain}) {
			t.Errorf("PathParse(%q) is %v, %v", "<"+text+">", a, ok)
		}
	}
	for _, text := range notAddresses() {
		// Without a text between the brackets, the path is the empty one.
		if a, ok := impl.PathParse("<" + text + ">"); text != "" && (ok || a != (impl.Address{})) {
			t.Errorf("PathParse(%q) is %v, %v", "<"+text+">", a, ok)
		}
	}
}

func TestP14PathsWithoutBrackets(t *testing.T) {
	list := []string{"", "<", ">", "><", "<<>", "<>>", "<<>>", "<> ", " <>", "< >", "<>a", "a<>", "<><>"}
	for _, text := range addresses() {
		list = append(list, text, "<"+text, text+">", ">"+text+"<", "<<"+text+">", "<"+text+">>", "<<"+text+">>", " <"+text+">", "<"+text+"> ", "< "+text+">", "<"+text+" >", "<>"+text, text+"<>", "<"+text+"<", ">"+text+">")
	}
	for _, text := range list {
		if a, ok := impl.PathParse(text); ok || a != (impl.Address{}) {
			t.Errorf("PathParse(%q) is %v, %v", text, a, ok)
		}
	}
}
