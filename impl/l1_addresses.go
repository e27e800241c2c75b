package impl

// MaxName is the largest number of bytes of a name.
const MaxName = 8

// MaxDomain is the largest number of bytes of a domain.
const MaxDomain = 20

// maxDomainNames is the largest number of names of a domain.
const maxDomainNames = 3

// Address is the address of a user in a domain.
type Address struct {
	User   string
	Domain string
}

// cursor reads a text from left to right; at is the index of the next byte.
type cursor struct {
	text string
	at   int
}

// done reports whether the whole text has been read.
func (c *cursor) done() bool {
	return c.at == len(c.text)
}

// take reads the next byte if it is b.
func (c *cursor) take(b byte) bool {
	if c.done() || c.text[c.at] != b {
		return false
	}
	c.at++
	return true
}

// name reads all signs of a name that follow, so that a name too long is not taken for a shorter one.
func (c *cursor) name() (string, bool) {
	start := c.at
	for !c.done() && isNameSign(c.text[c.at]) {
		c.at++
	}
	name := c.text[start:c.at]
	if name == "" || len(name) > MaxName {
		return "", false
	}
	return name, true
}

// domain reads names with dots between them.
func (c *cursor) domain() (string, bool) {
	start := c.at
	_, ok := c.name()
	for names := 1; ok && names < maxDomainNames && c.take('.'); names++ {
		_, ok = c.name()
	}
	domain := c.text[start:c.at]
	if !ok || len(domain) > MaxDomain {
		return "", false
	}
	return domain, true
}

// address reads a user, an at sign and a domain.
func (c *cursor) address() (Address, bool) {
	user, ok := c.name()
	if !ok || !c.take('@') {
		return Address{}, false
	}
	domain, ok := c.domain()
	if !ok {
		return Address{}, false
	}
	return Address{User: user, Domain: domain}, true
}

func isNameSign(b byte) bool {
	return 'a' <= b && b <= 'z' || '0' <= b && b <= '9'
}

// NameValid reports whether s is a name.
func NameValid(s string) bool {
	c := cursor{text: s}
	_, ok := c.name()
	return ok && c.done()
}

// DomainValid reports whether s is a domain.
func DomainValid(s string) bool {
	c := cursor{text: s}
	_, ok := c.domain()
	return ok && c.done()
}

// AddressParse returns the address of a text.
func AddressParse(text string) (Address, bool) {
	c := cursor{text: text}
	a, ok := c.address()
	if !ok || !c.done() {
		return Address{}, false
	}
	return a, true
}

// AddressText returns the text of an address, or "" if it is invalid.
func AddressText(a Address) string {
	if !NameValid(a.User) || !DomainValid(a.Domain) {
		return ""
	}
	return a.User + "@" + a.Domain
}

// PathParse returns the address of a path in angle brackets; the empty path has no address.
func PathParse(text string) (Address, bool) {
	if text == "<>" {
		return Address{}, true
	}
	c := cursor{text: text}
	if !c.take('<') {
		return Address{}, false
	}
	a, ok := c.address()
	if !ok || !c.take('>') || !c.done() {
		return Address{}, false
	}
	return a, true
}
