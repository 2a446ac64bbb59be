package num_test

import (
	"bytes"
	"fmt"
	"math"
	"math/rand"
	"slices"
	"strconv"
	"strings"
	"testing"
	"unsafe"

	"brougham/api"
	"brougham/num"
)

// P1.1

func TestText(t *testing.T) {
	for n, want := range map[int]string{
		0: "0", 7: "7", 9: "9", 10: "10", 120: "120", 65535: "65535",
		math.MaxInt32: "2147483647", math.MaxInt: strconv.Itoa(math.MaxInt),
		-1: "0", -120: "0", math.MinInt32: "0", math.MinInt: "0",
	} {
		if got := num.Text(n); got != want {
			t.Errorf("Text(%d): %q, not %q", n, got, want)
		}
	}
}

func TestParse(t *testing.T) {
	for s, want := range map[string]int{
		"0": 0, "1": 1, "9": 9, "10": 10, "120": 120, "99999": 99999,
		"999999999": 999999999, "1000000000": 1000000000, "2147483647": math.MaxInt32,
	} {
		if n, e := num.Parse(s); n != want || e != api.OK {
			t.Errorf("Parse(%q): %d, %v, not %d", s, n, e, want)
		}
	}
}

func TestParseWrong(t *testing.T) {
	for _, s := range []string{
		"", "00", "07", "0000000001", "-", "-0", "-1", "+1", " 1", "1 ", "1 2", "1x", "x1", "0x1", "1_0", "1.0", "1e3", "a",
		"2147483648", "2147483650", "3000000000", "4294967296", "4294967297", "9999999999", "10000000000", "18446744073709551617",
		"/", ":", "1/", "1:", "\x00", "1\x00", "\xff", "1\xff", "\u0661", "1\u0661", "\uff11", "\U0001d7cf",
		strings.Repeat("9", 100), strings.Repeat("0", 100), strings.Repeat("1", 1<<20),
	} {
		if n, e := num.Parse(s); n != 0 || e != api.ErrDigits {
			t.Errorf("Parse(%.20q): %d, %v", s, n, e)
		}
	}
}

// Read is just the form that is written, at each text of up to three of some bytes.
func TestParseIsText(t *testing.T) {
	some := "019a-+ \x00"
	for i := range len(some) * len(some) * len(some) {
		for long := range 4 {
			s := string([]byte{some[i%8], some[i/8%8], some[i/64]}[:min(long, 3)])
			n, e := num.Parse(s)
			written := e == api.OK && num.Text(n) == s
			library, err := strconv.Atoi(s)
			if right := err == nil && strconv.Itoa(library) == s && library >= 0; right != written {
				t.Fatalf("Parse(%q): %d, %v", s, n, e)
			}
		}
	}
}

func TestTextParsed(t *testing.T) {
	r := rand.New(rand.NewSource(1))
	for range 10000 {
		n := int(r.Int31() >> r.Intn(31))
		if got, e := num.Parse(num.Text(n)); got != n || e != api.OK {
			t.Fatalf("%d: %d, %v", n, got, e)
		}
	}
}

// P1.2

func TestHex(t *testing.T) {
	for _, x := range []struct {
		b    []byte
		text string
	}{
		{nil, "-"}, {[]byte{}, "-"}, {[]byte{11, 65}, "0b41"}, {[]byte{0}, "00"}, {[]byte{0, 0, 0}, "000000"},
		{[]byte{255}, "ff"}, {[]byte{0x9a, 0xf0, 0x0f, 0xa9}, "9af00fa9"}, {[]byte("-"), "2d"},
		{[]byte{0x01, 0x23, 0x45, 0x67, 0x89, 0xab, 0xcd, 0xef}, "0123456789abcdef"},
	} {
		if got := num.Hex(x.b); got != x.text {
			t.Errorf("Hex(%v): %q, not %q", x.b, got, x.text)
		}
		if got, e := num.Unhex(x.text); e != api.OK || !bytes.Equal(got, x.b) {
			t.Errorf("Unhex(%q): %v, %v", x.text, got, e)
		}
	}
}

func TestUnhexWrong(t *testing.T) {
	for _, s := range []string{
		"", "0", "f", "--", "-0", "0-", "-00", "00-", "0b4", "0G", "g0", "0A", "A0", "FF", "aF", " 0", "0 ", "00 ", "0x", "0x00",
		"/0", ":0", "@0", "`0", "0/", "0:", "0@", "0`", "00 00", "\x00\x00", "0\xff", "\xff0", "\u0661", "0\u0661", "\uff11", "\U0001d7cf", "a\u0100f",
		"00" + strings.Repeat("0", 1<<20) + "0", strings.Repeat("0", 1<<20) + "0G",
	} {
		if b, e := num.Unhex(s); len(b) != 0 || e != api.ErrHex {
			t.Errorf("Unhex(%.20q): %v, %v", s, b, e)
		}
	}
}

// Of all texts of two bytes just those of two digits are read, and each as it is written.
func TestUnhexPairs(t *testing.T) {
	read := 0
	for i := range 1 << 16 {
		s := string([]byte{byte(i >> 8), byte(i)})
		b, e := num.Unhex(s)
		if e != api.OK {
			continue
		}
		if len(b) != 1 || fmt.Sprintf("%02x", b[0]) != s {
			t.Fatalf("Unhex(%q): %v", s, b)
		}
		read++
	}
	if read != 256 {
		t.Error(read)
	}
}

func TestHexLong(t *testing.T) {
	r := rand.New(rand.NewSource(2))
	b := make([]byte, 1<<20)
	r.Read(b)
	text := num.Hex(b)
	if text != fmt.Sprintf("%x", b) {
		t.Error("Hex")
	}
	if got, e := num.Unhex(text); e != api.OK || !bytes.Equal(got, b) {
		t.Error("Unhex", e)
	}
}

// P1.3

func TestLine(t *testing.T) {
	for _, x := range []struct {
		l    []string
		want string
	}{
		{nil, ""}, {[]string{}, ""}, {[]string{""}, ""}, {[]string{"", "", ""}, ""}, {[]string{"a"}, "a"},
		{[]string{"a", "", "b"}, "a b"}, {[]string{"", "a"}, "a"}, {[]string{"a", ""}, "a"}, {[]string{"", "a", "", "", "b", ""}, "a b"},
		{[]string{"a", "b", "c"}, "a b c"}, {[]string{" "}, " "}, {[]string{"a ", " b"}, "a   b"}, {[]string{"#", "a"}, "# a"},
		{[]string{"\xff", "\u00e4"}, "\xff \u00e4"},
	} {
		if got := num.Line(x.l...); got != x.want {
			t.Errorf("Line(%q): %q, not %q", x.l, got, x.want)
		}
	}
}

func TestPieces(t *testing.T) {
	for s, want := range map[string][]string{
		"": nil, " ": nil, "   ": nil, "#": nil, "# a b": nil, "  # a": nil, "a": {"a"}, " a ": {"a"},
		" a  bc # d": {"a", "bc"}, "a b c": {"a", "b", "c"}, "a   b": {"a", "b"},
		"a#b c": {"a"}, "a #": {"a"}, "a b#": {"a", "b"}, "ab#c#d": {"ab"}, "#a#b": nil, "##": nil,
		"a\tb": {"a\tb"}, "a\nb c\r": {"a\nb", "c\r"}, "\t": {"\t"}, "a\u00a0b": {"a\u00a0b"}, "a\u3000b": {"a\u3000b"}, "a\x00 b": {"a\x00", "b"},
		"\xff \xfe\xff": {"\xff", "\xfe\xff"}, "\u00e4\u00f6 \U0001f600#": {"\u00e4\u00f6", "\U0001f600"}, "\xe4 \xe4\x23 a": {"\xe4", "\xe4"},
	} {
		if got := num.Pieces(s); !slices.Equal(got, want) {
			t.Errorf("Pieces(%q): %q, not %q", s, got, want)
		}
	}
}

// What Line writes of pieces without blanks and without # Pieces reads.
func TestLineCut(t *testing.T) {
	r := rand.New(rand.NewSource(3))
	for range 2000 {
		var l []string
		for range r.Intn(8) {
			b := make([]byte, r.Intn(5))
			r.Read(b)
			l = append(l, strings.NewReplacer(" ", "", "#", "").Replace(string(b)))
		}
		got := num.Pieces(num.Line(l...) + strings.Repeat("# a", r.Intn(2)))
		if want := slices.DeleteFunc(l, func(s string) bool { return s == "" }); !slices.Equal(got, want) {
			t.Fatalf("%q: %q", want, got)
		}
	}
}

// P1, P2

// Each call takes any argument, ends, and answers the same again, whatever was called between.
func TestAny(t *testing.T) {
	texts := []string{"", "-", "0", "7", "07", "0b41", " a # b", "#", " ", "\xff", "2147483648", "ab", strings.Repeat(" a", 1000)}
	answers := func() string {
		out := ""
		for i, s := range texts {
			n, e := num.Parse(s)
			b, f := num.Unhex(s)
			out += fmt.Sprintf("%d %v %v %v %q %q %q %q\n", n, e, b, f, num.Pieces(s), num.Line(texts[i:]...), num.Hex([]byte(s)), num.Text(i-3))
		}
		return out
	}
	first := answers()
	slices.Reverse(texts)
	answers()
	slices.Reverse(texts)
	if answers() != first {
		t.Error("another answer to the same call")
	}
}

// What is handed in isn't turned, isn't kept, isn't handed out, and is read up to its length.
func TestMemory(t *testing.T) {
	b := []byte{1, 2, 3, 4}
	if s := num.Hex(b[:2]); s != "0102" || !bytes.Equal(b, []byte{1, 2, 3, 4}) {
		t.Error(s, b)
	}
	s := num.Hex(b)
	b[0] = 9
	if s != "01020304" {
		t.Error(s)
	}
	l := []string{"a", "", "b", "c"}
	if s := num.Line(l[:3]...); s != "a b" || !slices.Equal(l, []string{"a", "", "b", "c"}) {
		t.Error(s, l)
	}
	one, _ := num.Unhex("0102")
	two, _ := num.Unhex("0102")
	one[0] = 9
	if two[0] != 1 {
		t.Error("two answers share memory")
	}
	text := strings.Repeat("x", 100)
	if p := num.Pieces(text); len(p) != 1 || p[0] != text || unsafe.StringData(p[0]) == unsafe.StringData(text) {
		t.Error("Pieces shares memory with its argument")
	}
	if s := num.Line(text); s != text || unsafe.StringData(s) == unsafe.StringData(text) {
		t.Error("Line shares memory with its argument")
	}
}
