package tests

import (
	"encoding/base64"
	"strings"
	"testing"

	"loop.example/mailhost/impl"
)

const base64Alphabet = "ABCDEFGHIJKLMNOPQRSTUVWXYZabcdefghijklmnopqrstuvwxyz0123456789+/"

// standardText is a second definition of base64, without a limit of the length.
func standardText(s string) string {
	return base64.StdEncoding.EncodeToString([]byte(s))
}

// standardPlain is a second definition of Base64Decode; the library skips newlines, which are no signs here.
func standardPlain(text string) (string, bool) {
	plain, err := base64.StdEncoding.Strict().DecodeString(text)
	if err != nil || len(plain) > 30 || strings.ContainsAny(text, "\r\n") {
		return "", false
	}
	return string(plain), true
}

// plains returns bytes to encode: all single ones, and for each number of at most most bytes several fillings.
func plains(most int) []string {
	var list []string
	for b := range 256 {
		list = append(list, string([]byte{byte(b)}))
	}
	state := 1
	for n := 0; n <= most; n++ {
		mixed := make([]byte, n)
		for i := range mixed {
			state = (state*75 + 74) % 65537
			mixed[i] = byte(state)
		}
		list = append(list, strings.Repeat("\x00", n), strings.Repeat("\xff", n), strings.Repeat("x", n), string(mixed))
	}
	return list
}

// goodTexts are the texts of bytes that may be encoded.
func goodTexts() []string {
	var list []string
	for _, s := range plains(30) {
		list = append(list, standardText(s))
	}
	return list
}

// badTexts are invalid; what is ahead of them or behind them does not make them valid.
func badTexts() []string {
	list := []string{
		"A", "AA", "AAA", "AAAAA", "AAAAAA", "AAAAAAA", "AA=", "YWJjZA", "YWJjZA=", "YWJjZA===", "YWJj=", "YWJj==", "YWJj====", "YWJjZA==A", "YWJjZA==AAAA",
		"=", "==", "===", "====", "=AAA", "A=AA", "AA=A", "==AA", "=A=A", "=AA=", "A==A", "A=A=", "===A", "A===", "=A==", "==A=", "AA==AA==", "AAA=AAAA", "AAA=AAA=", "AAAA====", "AAAA=", "====AAAA",
		"AB==", "AP==", "Af==", "A/==", "AAB=", "AAC=", "AAD=", "AA/=", "//==", "///=", "YWJjZB==", "YWJjZGX=",
		" ", "\n", "\x00", " AAAA", "AAAA ", "AA AA", "A A=", "AA= ", "AAAA\n", "AAAA\r\n", "\nAAAA", "AA\nAA", "AA\r==", "AA==\n", "A\tAA",
		"----", "____", "AA-_", "-A==", "A_==", "AAA.", "AAA,", "AAA:", "AAA@", "AAA[", "AAA`", "AAA{", "A*AA", "é==", "ééAA", "éé", "AAAé", "ＡＡ==", "\x80AAA", "AAA\xff", "\xff\xff\xff\xff",
	}
	for n := 31; n < 70; n++ {
		list = append(list, standardText(strings.Repeat("\x00", n)), standardText(strings.Repeat("y", n)))
	}
	return append(list, standardText(strings.Repeat("z", 3000)), strings.Repeat("=", 3000))
}

// expectNoPlain checks that a text is refused, without a result.
func expectNoPlain(t *testing.T, text string) {
	t.Helper()
	if s, ok := impl.Base64Decode(text); ok || s != "" {
		t.Errorf("Base64Decode(%q) is %q, %v", text, s, ok)
	}
}

// expectNoProof checks that PlainParse refuses a text, without a result.
func expectNoProof(t *testing.T, text string) {
	t.Helper()
	if user, pass, ok := impl.PlainParse(text); ok || user != "" || pass != "" {
		t.Errorf("PlainParse(%q) is %q, %q, %v", text, user, pass, ok)
	}
}

func TestConstantsOfBase64(t *testing.T) {
	if impl.MaxPlain != 30 {
		t.Errorf("the limit is %d", impl.MaxPlain)
	}
}

func TestP15NumberOfSigns(t *testing.T) {
	for _, s := range plains(30) {
		text := impl.Base64Encode(s)
		if len(text) != (len(s)+2)/3*4 {
			t.Errorf("Base64Encode of %d bytes has %d signs", len(s), len(text))
		}
		if text != standardText(s) {
			t.Errorf("Base64Encode(%q) is %q", s, text)
		}
	}
	for s, want := range map[string]string{"": "", "a": "YQ==", "ab": "YWI=", "abc": "YWJj", "abcd": "YWJjZA==", "\x00": "AA==", "\xff\xff\xff": "////", "\xfb\xef\xbe": "++++", "é": "w6k=", "\x00\x10\x83": "ABCD"} {
		if text := impl.Base64Encode(s); text != want {
			t.Errorf("Base64Encode(%q) is %q", s, text)
		}
	}
}

func TestP16BytesOfTexts(t *testing.T) {
	list := plains(30)
	for n := range 1 << 16 {
		list = append(list, string([]byte{byte(n >> 8), byte(n)}), string([]byte{byte(n >> 8), byte(n), byte(n * 7)}))
	}
	for _, s := range list {
		if plain, ok := impl.Base64Decode(impl.Base64Encode(s)); !ok || plain != s {
			t.Errorf("Base64Decode of the text of %q is %q, %v", s, plain, ok)
		}
	}
}

func TestP17TooManyBytes(t *testing.T) {
	for _, fill := range []string{"\x00", "a", "\xff"} {
		for _, n := range []int{31, 32, 33, 34, 36, 60, 256, 287, 70000} {
			if text := impl.Base64Encode(strings.Repeat(fill, n)); text != "" {
				t.Errorf("Base64Encode of %d bytes is %q", n, text)
			}
		}
		if len(impl.Base64Encode(strings.Repeat(fill, 30))) != 40 {
			t.Error("Base64Encode of MaxPlain bytes is wrong")
		}
	}
}

func TestP18TextsInParts(t *testing.T) {
	for _, s := range plains(30) {
		for k := 0; k <= len(s); k += 3 {
			if text := impl.Base64Encode(s[:k]) + impl.Base64Encode(s[k:]); text != impl.Base64Encode(s) {
				t.Errorf("Base64Encode of %q in two parts is %q", s, text)
			}
		}
	}
}

func TestP19PadsOfTexts(t *testing.T) {
	for _, s := range plains(30) {
		text := impl.Base64Encode(s)
		if strings.HasSuffix(text, "=") != (len(s)%3 != 0) || strings.HasSuffix(text, "==") != (len(s)%3 == 1) {
			t.Errorf("Base64Encode(%q) is %q", s, text)
		}
		if pads := strings.Count(text, "="); pads != (3-len(s)%3)%3 {
			t.Errorf("Base64Encode(%q) has %d pads", s, pads)
		}
	}
}

func TestP20TextsOfBytes(t *testing.T) {
	list := append(goodTexts(), badTexts()...)
	list = append(list, shortTexts("AB/=-", 5)...)
	list = append(list, shortTexts("AQ=", 8)...)
	for _, sign := range base64Alphabet {
		list = append(list, "A"+string(sign)+"==", "AA"+string(sign)+"=", "AAAAA"+string(sign)+"==", "AAAAAA"+string(sign)+"=", string(sign)+"AAA", "AAA"+string(sign))
	}
	for _, text := range list {
		s, ok := impl.Base64Decode(text)
		if want, fine := standardPlain(text); ok != fine || s != want {
			t.Errorf("Base64Decode(%q) is %q, %v", text, s, ok)
		}
		if ok && impl.Base64Encode(s) != text {
			t.Errorf("Base64Encode of Base64Decode(%q) is %q", text, impl.Base64Encode(s))
		}
	}
}

func TestP20BitsThatAreNotNeeded(t *testing.T) {
	for value, sign := range base64Alphabet {
		for _, front := range []string{"", "AAAA", "YWJj"} {
			one := front + "z" + string(sign) + "=="
			if _, ok := impl.Base64Decode(one); ok != (value%16 == 0) {
				t.Errorf("Base64Decode(%q) is %v", one, ok)
			}
			two := front + "z9" + string(sign) + "="
			if _, ok := impl.Base64Decode(two); ok != (value%4 == 0) {
				t.Errorf("Base64Decode(%q) is %v", two, ok)
			}
		}
	}
}

func TestP21TextsCutOff(t *testing.T) {
	for _, text := range goodTexts() {
		if text == "" {
			continue
		}
		if _, ok := impl.Base64Decode(text); !ok {
			t.Errorf("Base64Decode(%q) fails", text)
		}
		for n := 1; n <= 3; n++ {
			expectNoPlain(t, text[:len(text)-n])
		}
	}
	for _, text := range badTexts() {
		expectNoPlain(t, text)
	}
}

func TestP22OtherSignsInTexts(t *testing.T) {
	for _, text := range goodTexts() {
		for i := range text {
			expectNoPlain(t, text[:i]+"-"+text[i+1:])
		}
	}
	for _, text := range []string{"AA==", "AAA=", "AAAA", "YWJjZA==", "YWJjZGU=", "YWJjZGVm", standardText(strings.Repeat("a", 30))} {
		for b := range 256 {
			other := string([]byte{byte(b)})
			if strings.Contains(base64Alphabet+"=", other) {
				continue
			}
			for i := range text {
				expectNoPlain(t, text[:i]+other+text[i+1:])
			}
			for _, longer := range withPut(text, other) {
				expectNoPlain(t, longer)
			}
		}
		for i := range text {
			padded := text[:i] + "=" + text[i+1:]
			_, ok := impl.Base64Decode(padded)
			if _, want := standardPlain(padded); ok != want {
				t.Errorf("Base64Decode(%q) is %v", padded, ok)
			}
		}
	}
}

func TestP23ProofsOfUsers(t *testing.T) {
	for _, user := range names() {
		for _, pass := range names() {
			text := impl.PlainMake(user, pass)
			if u, p, ok := impl.PlainParse(text); !ok || u != user || p != pass {
				t.Errorf("PlainParse(%q) is %q, %q, %v", text, u, p, ok)
			}
		}
	}
}

func TestP24ProofsOfNamesOnly(t *testing.T) {
	list := append(names(), notNames()...)
	for n := 0; n <= impl.MaxName+1; n++ {
		list = append(list, strings.Repeat("q", n))
	}
	for _, user := range list {
		for _, pass := range list {
			text := impl.PlainMake(user, pass)
			if (text != "") != (isName(user) && isName(pass)) {
				t.Errorf("PlainMake(%q, %q) is %q", user, pass, text)
			}
		}
	}
}

func TestP25BytesOfProofs(t *testing.T) {
	if text := impl.PlainMake("amy", "a1"); text != "AGFteQBhMQ==" {
		t.Errorf("PlainMake of amy is %q", text)
	}
	for _, user := range names() {
		for _, pass := range names() {
			text := impl.PlainMake(user, pass)
			if s, ok := impl.Base64Decode(text); !ok || s != "\x00"+user+"\x00"+pass {
				t.Errorf("Base64Decode of PlainMake(%q, %q) is %q, %v", user, pass, s, ok)
			}
		}
	}
}

func TestP26ProofsExchanged(t *testing.T) {
	for _, user := range names() {
		for _, pass := range names() {
			same := impl.PlainMake(pass, user) == impl.PlainMake(user, pass)
			if same != (user == pass) {
				t.Errorf("PlainMake of %q and %q does not tell them apart", user, pass)
			}
		}
	}
}

// proofTexts are texts of bytes beside those of a user and a password; few of them are valid.
func proofTexts() []string {
	list := append(goodTexts(), badTexts()...)
	for _, s := range shortTexts("\x00a0A.", 6) {
		list = append(list, standardText(s), standardText("\x00"+s))
	}
	for _, s := range []string{"\x00abcdefgh\x00abcdefgh", "\x00abcdefghi\x00a", "\x00a\x00abcdefghi", "\x00a\x00" + strings.Repeat("b", 27), "\x00a\x00" + strings.Repeat("b", 28), strings.Repeat("\x00", 30), strings.Repeat("\x00", 31)} {
		list = append(list, standardText(s))
	}
	return list
}

func TestP27TextOfProofs(t *testing.T) {
	for _, text := range proofTexts() {
		user, pass, ok := impl.PlainParse(text)
		plain, _ := standardPlain(text)
		parts := strings.Split(plain, "\x00")
		if want := len(parts) == 3 && parts[0] == "" && isName(parts[1]) && isName(parts[2]); ok != want {
			t.Errorf("PlainParse(%q) is %v", text, ok)
		}
		if ok && (impl.PlainMake(user, pass) != text || user != parts[1] || pass != parts[2]) {
			t.Errorf("PlainParse(%q) is %q, %q", text, user, pass)
		}
		if !ok {
			expectNoProof(t, text)
		}
	}
}

func TestP27TextsThatAreNoProofs(t *testing.T) {
	for _, s := range []string{
		"", "amy", "amya1", "\x00", "\x00amy", "amy\x00", "amy\x00a1", "\x00\x00", "\x00\x00a1", "\x00amy\x00", "\x00amya1",
		"\x00amy\x00a1\x00", "\x00\x00amy\x00a1", "\x00amy\x00\x00a1", "\x00a\x00b\x00c", "\x00\x00\x00", "a\x00amy\x00a1", "amy\x00amy\x00a1", "amy\x00a1\x00",
		" \x00amy\x00a1", "\x00amy\x00a1 ", "\x00amy\x00a1\n", "\x00amy a1", "\x00Amy\x00a1", "\x00amy\x00A1", "\x00a.b\x00a1", "\x00am\xff\x00a1", "\x00amy\x00é", "\x01amy\x01a1", "0amy0a1",
		"\x00abcdefghi\x00a1", "\x00amy\x00abcdefghi",
	} {
		expectNoProof(t, standardText(s))
		expectNoProof(t, s)
	}
	// These are a proof but for a bit that is not needed, for the pads, and for what is around the text.
	for _, text := range []string{"AGFteQBhMR==", "AGFteQBhMQ=", "AGFteQBhMQ", "AGFteQBhMQ===", " AGFteQBhMQ==", "AGFteQBhMQ== ", "AGFteQBhMQ==\n", "agfteqbhmq=="} {
		expectNoProof(t, text)
	}
}

func TestP28ProofsBehindBytes(t *testing.T) {
	for _, user := range names() {
		for _, pass := range names() {
			text := impl.PlainMake(user, pass)
			if _, _, ok := impl.PlainParse(text); !ok {
				t.Errorf("PlainParse(%q) fails", text)
			}
			for _, front := range []string{"AAAA", "AAAAAAAA", "YWJj"} {
				expectNoProof(t, front+text)
			}
		}
	}
}
