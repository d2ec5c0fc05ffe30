package tests

import (
	"math"
	"slices"
	"strconv"
	"strings"
	"testing"
	"unsafe"

	"loop.example/g00240/impl"
)

// numbers holds the edges of every length of VarText, and a spread between them.
func numbers() []int {
	list := []int{}
	for n := 0; n <= 40000; n++ {
		list = append(list, n)
	}
	for edge := 1 << 14; edge <= impl.MaxNumber; edge *= 2 {
		list = append(list, edge-1, edge, edge+1)
	}
	for n := 40001; n < impl.MaxNumber; n += 99991 {
		list = append(list, n)
	}
	return append(list, impl.MaxNumber-1, impl.MaxNumber)
}

// numbersOutside holds numbers that VarText refuses.
func numbersOutside() []int {
	return []int{-1, -2, -127, -128, -129, -impl.MaxNumber, math.MinInt, impl.MaxNumber + 1, impl.MaxNumber + 128, math.MaxInt32, math.MaxInt}
}

// allBytes is a text that has each byte once.
func allBytes() string {
	b := make([]byte, 256)
	for at := range b {
		b[at] = byte(at)
	}
	return string(b)
}

// samples are texts of many lengths, with all bytes, up to the limit.
func samples() []string {
	long := strings.Repeat(allBytes(), impl.MaxText/256+1)
	list := []string{"", "\x00", "\x80", "\xff", "a", "0", " ", "\n", "h\u00e9"}
	for _, size := range []int{2, 3, 126, 127, 128, 129, 255, 256, 16383, 16384, impl.MaxText - 1, impl.MaxText} {
		list = append(list, long[:size], strings.Repeat("\xff", size))
	}
	return list
}

func noVar(t *testing.T, text string, at int) {
	t.Helper()
	if n, end, ok := impl.ReadVar(text, at); n != 0 || end != 0 || ok {
		t.Errorf("ReadVar(%q, %d) = %d, %d, %v", text, at, n, end, ok)
	}
}

func noShort(t *testing.T, text string, at int) {
	t.Helper()
	if s, end, ok := impl.ReadShort(text, at); s != "" || end != 0 || ok {
		t.Errorf("ReadShort of %d bytes at %d = %d bytes, %d, %v", len(text), at, len(s), end, ok)
	}
}

func TestVarTextBytes(t *testing.T) {
	for n, want := range map[int]string{
		0: "\x00", 1: "\x01", 127: "\x7f", 128: "\x80\x01", 129: "\x81\x01", 255: "\xff\x01", 256: "\x80\x02", 300: "\xac\x02",
		16383: "\xff\x7f", 16384: "\x80\x80\x01", 2097151: "\xff\xff\x7f", 2097152: "\x80\x80\x80\x01",
		268435455: "\xff\xff\xff\x7f", 268435456: "\x80\x80\x80\x80\x01",
		impl.MaxNumber - 1: "\xff\x93\xeb\xdc\x03", impl.MaxNumber: "\x80\x94\xeb\xdc\x03",
	} {
		if got, ok := impl.VarText(n); got != want || !ok {
			t.Errorf("VarText(%d) = %q, %v, not %q", n, got, ok, want)
		}
	}
	for _, n := range numbersOutside() {
		if got, ok := impl.VarText(n); got != "" || ok {
			t.Errorf("VarText(%d) = %q, %v", n, got, ok)
		}
	}
}

func TestVarTextIsReadBack(t *testing.T) {
	for _, n := range numbers() {
		text, ok := impl.VarText(n)
		if !ok {
			t.Fatalf("VarText(%d) is refused", n)
		}
		for _, ahead := range []string{"", "\x80\x00"} {
			for _, behind := range []string{"", "\x00", "\xff"} {
				got, end, ok := impl.ReadVar(ahead+text+behind, len(ahead))
				if got != n || end != len(ahead)+len(text) || !ok {
					t.Fatalf("ReadVar(%q, %d) = %d, %d, %v, not %d", ahead+text+behind, len(ahead), got, end, ok, n)
				}
			}
		}
		for cut := range len(text) {
			noVar(t, text[:cut], 0)
		}
		// The same number with a needless nought behind it.
		long := []byte(text)
		long[len(long)-1] |= 128
		for range 8 {
			noVar(t, string(append(long, 0)), 0)
			long = append(long, 128)
		}
	}
}

func TestReadVarPlaces(t *testing.T) {
	text := "\x05\xac\x02\x07"
	for at, want := range [][2]int{{5, 1}, {300, 3}, {2, 3}, {7, 4}} {
		if n, end, ok := impl.ReadVar(text, at); n != want[0] || end != want[1] || !ok {
			t.Errorf("ReadVar(%q, %d) = %d, %d, %v", text, at, n, end, ok)
		}
	}
	for _, at := range []int{len(text), len(text) + 1, -1, -4, math.MinInt, math.MaxInt, math.MaxInt - 1} {
		noVar(t, text, at)
	}
	noVar(t, "", 0)
	noVar(t, "", 1)
	noVar(t, "", -1)
}

func TestReadVarRefuses(t *testing.T) {
	for _, text := range []string{
		"\x80\x00", "\xff\x00", "\x80\x80\x00", "\x80\x80\x80\x80\x00", "\x80\x94\xeb\xdc\x83\x00",
		"\x80", "\xff\xff", "\x80\x80\x80\x80", "\x80\x80\x80\x80\x80",
		"\x81\x94\xeb\xdc\x03", "\x80\x94\xeb\xdc\x04", "\xff\xff\xff\xff\x03", "\xff\xff\xff\xff\x7f",
		"\x80\x80\x80\x80\x80\x01", "\x81\x80\x80\x80\x80\x80\x80\x80\x80\x01",
		"\x81\x80\x80\x80\x80\x80\x80\x80\x80\x02", strings.Repeat("\x80", 9) + "\x01",
		strings.Repeat("\x80", 10) + "\x01", strings.Repeat("\xff", 1000), strings.Repeat("\x80", 1000) + "\x01",
	} {
		noVar(t, text, 0)
	}
}

// Every text of up to three bytes: what is read is what VarText writes, and all that it writes is read.
func TestReadVarShortTexts(t *testing.T) {
	known := map[string]int{}
	for n := range 1 << 15 {
		text, _ := impl.VarText(n)
		known[text] = n
	}
	for first := range 256 {
		for second := range 256 {
			for _, third := range []int{0, 1, 2, 127, 128, 255} {
				text := string([]byte{byte(first), byte(second), byte(third)})
				n, end, ok := impl.ReadVar(text, 0)
				if ok {
					if again, _ := impl.VarText(n); end < 1 || end > 3 || again != text[:end] {
						t.Fatalf("ReadVar(%q, 0) = %d, %d", text, n, end)
					}
				}
				for size := 1; size <= 3; size++ {
					if want, there := known[text[:size]]; there && (!ok || n != want || end != size) {
						t.Fatalf("ReadVar(%q, 0) = %d, %d, %v, not %d", text, n, end, ok, want)
					}
				}
			}
		}
	}
}

func TestShortTextIsReadBack(t *testing.T) {
	for text, want := range map[string]string{"": "\x00", "a": "\x01a", "\x00": "\x01\x00", "abc": "\x03abc"} {
		if got, ok := impl.ShortText(text); got != want || !ok {
			t.Errorf("ShortText(%q) = %q, %v", text, got, ok)
		}
	}
	for _, s := range samples() {
		text, ok := impl.ShortText(s)
		size, _ := impl.VarText(len(s))
		if text != size+s || !ok {
			t.Fatalf("ShortText of %d bytes is wrong: %d bytes, %v", len(s), len(text), ok)
		}
		for _, ahead := range []string{"", "\x80\x00"} {
			for _, behind := range []string{"", "\x00", "\xff"} {
				got, end, ok := impl.ReadShort(ahead+text+behind, len(ahead))
				if got != s || end != len(ahead)+len(text) || !ok {
					t.Fatalf("ReadShort of %d bytes = %d bytes, %d, %v", len(s), len(got), end, ok)
				}
			}
		}
		noShort(t, text[:len(text)-1], 0)
		noShort(t, text, len(text))
	}
	for _, size := range []int{impl.MaxText + 1, 2 * impl.MaxText, 100000} {
		if text, ok := impl.ShortText(strings.Repeat("a", size)); text != "" || ok {
			t.Errorf("ShortText of %d bytes = %d bytes, %v", size, len(text), ok)
		}
	}
}

func TestReadShortRefuses(t *testing.T) {
	for _, text := range []string{"", "\x01", "\x02a", "\x80\x00", "\x81\x00a", "\x80", "\xff\xff", "\x80\x94\xeb\xdc\x03abc", "\xff\xff\xff\xff\xff\xff\xff\xff\x7f"} {
		noShort(t, text, 0)
	}
	for _, at := range []int{-1, 5, 6, math.MinInt, math.MaxInt} {
		noShort(t, "\x04abcd", at)
	}
	size, _ := impl.VarText(impl.MaxText + 1)
	noShort(t, size+strings.Repeat("a", impl.MaxText+1), 0)
	noShort(t, size+strings.Repeat("a", 2*impl.MaxText), 0)
	if s, end, ok := impl.ReadShort("\x04\x00\x01bc", 1); s != "" || end != 2 || !ok {
		t.Errorf("an empty text in the midst: %q, %d, %v", s, end, ok)
	}
	if s, end, ok := impl.ReadShort("\x04\x00\x01bc", 2); s != "b" || end != 4 || !ok {
		t.Errorf("a text in the midst: %q, %d, %v", s, end, ok)
	}
}

func TestHexIsReadBack(t *testing.T) {
	for text, want := range map[string]string{"": "", "\x00": "00", "\x0f": "0f", "\xf0": "f0", "\x9a\xbc": "9abc", "\xde\xad": "dead", "az": "617a", "\xff": "ff"} {
		if got, ok := impl.Hex(text); got != want || !ok {
			t.Errorf("Hex(%q) = %q, %v", text, got, ok)
		}
	}
	for _, s := range samples() {
		text, ok := impl.Hex(s)
		if len(text) != 2*len(s) || !ok || strings.Trim(text, "0123456789abcdef") != "" {
			t.Fatalf("Hex of %d bytes = %d bytes, %v", len(s), len(text), ok)
		}
		if got, ok := impl.Unhex(text); got != s || !ok {
			t.Fatalf("Unhex of Hex of %d bytes = %d bytes, %v", len(s), len(got), ok)
		}
	}
	for _, size := range []int{impl.MaxText + 1, 2 * impl.MaxText, 100000} {
		if text, ok := impl.Hex(strings.Repeat("a", size)); text != "" || ok {
			t.Errorf("Hex of %d bytes = %d bytes, %v", size, len(text), ok)
		}
	}
}

func TestUnhexRefuses(t *testing.T) {
	wrong := []string{"0", "f", "000", "61 62", "0x61", "FF", "fF", "Ff", "-1", "+1", " 0", "0 ", "00\n", "\u0660\u0660",
		strings.Repeat("0", 2*impl.MaxText+1), strings.Repeat("0", 2*impl.MaxText+2), strings.Repeat("0", 2*impl.MaxText-1) + "g"}
	for c := range 256 {
		if !strings.Contains("0123456789abcdef", string([]byte{byte(c)})) {
			wrong = append(wrong, string([]byte{byte(c), '0'}), string([]byte{'0', byte(c)}), "aa"+string([]byte{byte(c)})+"abb")
		}
	}
	for _, text := range wrong {
		if got, ok := impl.Unhex(text); got != "" || ok {
			t.Errorf("Unhex of %d bytes (%.10q ..) = %d bytes, %v", len(text), text, len(got), ok)
		}
	}
	if got, ok := impl.Unhex(strings.Repeat("0", 2*impl.MaxText)); len(got) != impl.MaxText || !ok {
		t.Errorf("Unhex at its limit = %d bytes, %v", len(got), ok)
	}
}

func TestDecimalIsReadBack(t *testing.T) {
	for n, want := range map[int]string{
		0: "0", 1: "1", 9: "9", 10: "10", 100: "100", 109: "109", -1: "-1", -5: "-5", -10: "-10", impl.MaxNumber: "1000000000",
		math.MaxInt: "9223372036854775807", math.MinInt: "-9223372036854775808", math.MinInt + 1: "-9223372036854775807",
	} {
		if got := impl.Decimal(n); got != want {
			t.Errorf("Decimal(%d) = %q", n, got)
		}
	}
	for _, n := range numbers() {
		text := impl.Decimal(n)
		if text != strconv.FormatInt(int64(n), 10) {
			t.Fatalf("Decimal(%d) = %q", n, text)
		}
		if got, ok := impl.ReadDecimal(text); got != n || !ok {
			t.Fatalf("ReadDecimal(%q) = %d, %v", text, got, ok)
		}
	}
}

func TestReadDecimalRefuses(t *testing.T) {
	wrong := []string{"", "00", "01", "007", "0000000000", "-0", "+0", "+1", " 1", "1 ", "1\n", "1.0", "1e3", "1_0", "0x1", "a", "1a", "a1", "/", ":", "1/", "1:", "\u0661",
		"1000000001", "1000000010", "2000000000", "9999999999", "10000000000", "01000000000",
		"18446744073709551616", "18446744073709551617", "9223372036854775808", strings.Repeat("9", 500), "1" + strings.Repeat("0", 500), strings.Repeat("0", 500)}
	for _, n := range numbersOutside() {
		wrong = append(wrong, impl.Decimal(n))
	}
	for c := range 256 {
		if c < '0' || c > '9' {
			b := string([]byte{byte(c)})
			wrong = append(wrong, b, "1"+b, b+"1", "1"+b+"1")
		}
	}
	for _, text := range wrong {
		if n, ok := impl.ReadDecimal(text); n != 0 || ok {
			t.Errorf("ReadDecimal(%q) = %d, %v", text, n, ok)
		}
	}
}

func TestPartsOf(t *testing.T) {
	for line, want := range map[string][]string{
		"": {}, " ": {}, "     ": {}, strings.Repeat(" ", impl.MaxWords): {},
		"a": {"a"}, " a": {"a"}, "a ": {"a"}, "  a  ": {"a"}, "a b": {"a", "b"}, " tick  1 2 ": {"tick", "1", "2"},
		"put KEY VAL": {"put", "KEY", "VAL"}, "! ~": {"!", "~"}, "#x y": {"#x", "y"}, "a,b\"c'd": {"a,b\"c'd"},
		strings.Repeat("a", impl.MaxWords):                {strings.Repeat("a", impl.MaxWords)},
		strings.Repeat(" ", impl.MaxWords-1) + "z":        {"z"},
		"z" + strings.Repeat(" ", impl.MaxWords-1):        {"z"},
		"1 2 3 4 5 6 7 8 9 10":                            strings.Split("1 2 3 4 5 6 7 8 9 10", " "),
		"  1  2  3  4  5  6  7  8  9  10  ":               strings.Split("1 2 3 4 5 6 7 8 9 10", " "),
		strings.Repeat("a ", impl.MaxParts) + "         ": strings.Split("a a a a a a a a a a", " "),
	} {
		if got, ok := impl.PartsOf(line); !slices.Equal(got, want) || !ok {
			t.Errorf("PartsOf(%q) = %q, %v", line, got, ok)
		}
	}
}

func TestPartsOfRefuses(t *testing.T) {
	wrong := []string{strings.Repeat(" ", impl.MaxWords+1), strings.Repeat("a", impl.MaxWords+1), "a" + strings.Repeat(" ", impl.MaxWords),
		"1 2 3 4 5 6 7 8 9 10 11", strings.Repeat("a ", impl.MaxParts+1), strings.Repeat("a ", impl.MaxWords/2), "a\u00a0b", "h\u00e9"}
	for c := range 256 {
		b := string([]byte{byte(c)})
		if c < 32 || c > 126 {
			wrong = append(wrong, b, "a"+b, b+"a", "a "+b+" b", " "+b)
		} else if parts, ok := impl.PartsOf("a" + b + "b"); !ok || len(parts) != 1 && c != 32 {
			t.Errorf("byte %d: %q, %v", c, parts, ok)
		}
	}
	for _, line := range wrong {
		if parts, ok := impl.PartsOf(line); len(parts) != 0 || ok {
			t.Errorf("PartsOf(%q) = %q, %v", line, parts, ok)
		}
	}
}

// sharesMemory tells whether a lies within the bytes of b.
func sharesMemory(a, b string) bool {
	if a == "" || b == "" {
		return false
	}
	from, first := uintptr(unsafe.Pointer(unsafe.StringData(a))), uintptr(unsafe.Pointer(unsafe.StringData(b)))
	return from < first+uintptr(len(b)) && first < from+uintptr(len(a))
}

func TestWordsAreNewMemory(t *testing.T) {
	text := "\x05hello and more"
	if s, _, ok := impl.ReadShort(text, 0); !ok || sharesMemory(s, text) {
		t.Errorf("ReadShort hands out its argument: %q, %v", s, ok)
	}
	for _, line := range []string{"word", "two words"} {
		parts, ok := impl.PartsOf(line)
		if !ok {
			t.Errorf("PartsOf(%q) is refused", line)
		}
		for _, part := range parts {
			if sharesMemory(part, line) {
				t.Errorf("PartsOf hands out its argument: %q", part)
			}
		}
	}
}
