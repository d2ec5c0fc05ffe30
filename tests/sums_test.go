package tests

import (
	"strings"
	"testing"

	"loop.example/g00240/impl"
)

// plainSum goes the document's way, bit by bit.
func plainSum(sum uint32, text string) uint32 {
	for at := range len(text) {
		sum ^= uint32(text[at])
		for range 8 {
			odd := sum%2 == 1
			sum /= 2
			if odd {
				sum ^= 3558460437
			}
		}
	}
	return sum
}

// firstSums are sums to begin with: both ends, each single bit, and some between.
func firstSums() []uint32 {
	list := []uint32{0, 4294967295, 4294967294, 2147483647, 3558460437, 0xedb88320, 0x12345678}
	for bit := range 32 {
		list = append(list, 1<<bit)
	}
	return list
}

func seal(t *testing.T, text string) string {
	t.Helper()
	sealed, ok := impl.Sealed(text)
	if !ok {
		t.Fatalf("Sealed of %d bytes is refused", len(text))
	}
	return sealed
}

func notSealed(t *testing.T, text string) {
	t.Helper()
	if got, ok := impl.Unsealed(text); got != "" || ok {
		t.Errorf("Unsealed of %d bytes (%.10q ..) = %d bytes, %v", len(text), text, len(got), ok)
	}
}

// turned is text with the bits of turn changed in the byte at this place.
func turned(text string, at int, turn byte) string {
	b := []byte(text)
	b[at] ^= turn
	return string(b)
}

func TestSumNumbers(t *testing.T) {
	for _, c := range []struct {
		sum  uint32
		text string
		want uint32
	}{
		{0, "", 0}, {1, "", 1}, {4294967295, "", 4294967295}, {3558460437, "", 3558460437},
		{0, "\x00", 0}, {0, "\x01", 735957071}, {0, "\x80", 3558460437}, {0, "\xff", 2170173475}, {0, strings.Repeat("\x00", 100), 0},
		{1, "a", 889615109}, {2147483648, "a", 509322058},
		{4294967295, "\x00", 2175125468}, {4294967295, "\xff", 16777215}, {4294967295, "\xff\xff\xff\xff", 0},
		{4294967295, "a", 2675860630}, {4294967295, "abc", 2815232641}, {4294967295, "123456789", 2026809993}, {4294967295, allBytes(), 2660958145},
		{4294967295, strings.Repeat("\x00", impl.MaxText), 3076183651}, {4294967295, strings.Repeat("\xff", impl.MaxText), 439988629},
	} {
		if got := impl.SumMore(c.sum, c.text); got != c.want {
			t.Errorf("SumMore(%d, %.10q ..) = %d, not %d", c.sum, c.text, got, c.want)
		}
		if got := impl.SumOf(c.text); c.sum == 4294967295 && got != c.want {
			t.Errorf("SumOf(%.10q ..) = %d, not %d", c.text, got, c.want)
		}
	}
}

// Every byte on every sum to begin with, against the document's own words.
func TestSumOfEachByte(t *testing.T) {
	for _, sum := range firstSums() {
		for c := range 256 {
			text := string([]byte{byte(c)})
			if got, want := impl.SumMore(sum, text), plainSum(sum, text); got != want {
				t.Fatalf("SumMore(%d, %q) = %d, not %d", sum, text, got, want)
			}
		}
	}
}

func TestSumOfTexts(t *testing.T) {
	for _, text := range append(samples(), strings.Repeat(allBytes(), 100)) {
		for _, sum := range []uint32{0, 1, 2147483648, 4294967295} {
			if got, want := impl.SumMore(sum, text), plainSum(sum, text); got != want {
				t.Errorf("SumMore(%d, %d bytes) = %d, not %d", sum, len(text), got, want)
			}
		}
		if got, want := impl.SumOf(text), plainSum(4294967295, text); got != want {
			t.Errorf("SumOf of %d bytes = %d, not %d", len(text), got, want)
		}
	}
}

func TestSumMoreGoesOn(t *testing.T) {
	text := allBytes() + "some words \x00\x00\x00 and \xff\xff more"
	for cut := range len(text) + 1 {
		if got, want := impl.SumMore(impl.SumOf(text[:cut]), text[cut:]), impl.SumOf(text); got != want {
			t.Fatalf("cut at %d: %d, not %d", cut, got, want)
		}
		for _, sum := range firstSums() {
			if got, want := impl.SumMore(impl.SumMore(sum, text[:cut]), text[cut:]), impl.SumMore(sum, text); got != want {
				t.Fatalf("from %d on, cut at %d: %d, not %d", sum, cut, got, want)
			}
		}
	}
	sum := impl.SumOf("")
	for at := range len(text) {
		sum = impl.SumMore(sum, text[at:at+1])
	}
	if sum != impl.SumOf(text) {
		t.Errorf("byte by byte: %d, not %d", sum, impl.SumOf(text))
	}
}

func TestSealedIsUnsealed(t *testing.T) {
	for text, want := range map[string]string{
		"": "\xff\xff\xff\xff", "\x00": "\x00\x81\xa5\xc7\xdc", "\xff": "\xff\x00\xff\xff\xff", "a": "a\x9f\x7e\x64\x96", "abc": "abc\xa7\xcd\x0a\x81",
		"\xff\xff\xff\xff": "\xff\xff\xff\xff\x00\x00\x00\x00",
	} {
		if got, ok := impl.Sealed(text); got != want || !ok {
			t.Errorf("Sealed(%q) = %q, %v, not %q", text, got, ok, want)
		}
	}
	for _, text := range samples() {
		sealed := seal(t, text)
		sum := plainSum(4294967295, text)
		if want := text + string([]byte{byte(sum >> 24), byte(sum >> 16), byte(sum >> 8), byte(sum)}); sealed != want {
			t.Errorf("Sealed of %d bytes is wrong", len(text))
		}
		if got, ok := impl.Unsealed(sealed); got != text || !ok {
			t.Errorf("Unsealed of %d bytes = %d bytes, %v", len(text), len(got), ok)
		}
		if again := seal(t, text); again != sealed {
			t.Errorf("Sealed of %d bytes answers otherwise the second time", len(text))
		}
	}
}

func TestSealedTwice(t *testing.T) {
	once := seal(t, "abc")
	twice := seal(t, once)
	if got, ok := impl.Unsealed(twice); got != once || !ok {
		t.Errorf("Unsealed of what is sealed twice = %q, %v", got, ok)
	}
}

func TestSealedRefuses(t *testing.T) {
	for _, size := range []int{impl.MaxText + 1, impl.MaxText + 4, 2 * impl.MaxText, 100000} {
		if got, ok := impl.Sealed(strings.Repeat("a", size)); got != "" || ok {
			t.Errorf("Sealed of %d bytes = %d bytes, %v", size, len(got), ok)
		}
	}
}

// With one byte turned, in any way, no text is what Sealed writes.
func TestOneByteTurned(t *testing.T) {
	for _, text := range []string{"", "\x00", "\xff", "a", "abc", "\x00\x00\x00\x00", "\xff\xff\xff\xff", allBytes()} {
		sealed := seal(t, text)
		for at := range len(sealed) {
			for turn := 1; turn < 256; turn++ {
				notSealed(t, turned(sealed, at, byte(turn)))
			}
		}
	}
	for _, text := range samples() {
		sealed := seal(t, text)
		for _, at := range []int{0, 1, len(sealed) / 2, len(sealed) - 5, len(sealed) - 4, len(sealed) - 3, len(sealed) - 2, len(sealed) - 1} {
			if at < 0 {
				continue
			}
			for _, turn := range []byte{1, 2, 16, 128, 255} {
				notSealed(t, turned(sealed, at, turn))
			}
		}
	}
}

func TestUnsealedRefuses(t *testing.T) {
	for _, text := range []string{"", "\x00", "\xff", "a", "ab", "abc", "\x00\x00\x00", "\xff\xff\xff", "\x00\x00\x00\x00", "abcd", "\xff\xff\xff\xfe", "abcde"} {
		notSealed(t, text)
	}
	sealed := seal(t, "some words")
	for cut := range len(sealed) {
		notSealed(t, sealed[:cut])
	}
	for at := 1; at <= len(sealed); at++ {
		notSealed(t, sealed[at:])
	}
	for c := range 256 {
		b := string([]byte{byte(c)})
		notSealed(t, sealed+b)
		notSealed(t, b+sealed)
	}
	// The bytes of the sum the other way about.
	notSealed(t, "abc\x81\x0a\xcd\xa7")
	notSealed(t, "\xa7\xcd\x0a\x81abc")
}

// These have a sum that fits, but Sealed writes no text of their length.
func TestUnsealedTooLong(t *testing.T) {
	for _, size := range []int{impl.MaxText + 1, impl.MaxText + 2, impl.MaxText + 4, 2 * impl.MaxText} {
		text := strings.Repeat("a", size)
		sum := plainSum(4294967295, text)
		notSealed(t, text+string([]byte{byte(sum >> 24), byte(sum >> 16), byte(sum >> 8), byte(sum)}))
	}
	text := strings.Repeat("a", impl.MaxText)
	if got, ok := impl.Unsealed(seal(t, text)); got != text || !ok {
		t.Errorf("Unsealed at its limit = %d bytes, %v", len(got), ok)
	}
}

func TestSumsAreNewMemory(t *testing.T) {
	text := "hello and more"
	sealed := seal(t, text)
	if sharesMemory(sealed, text) {
		t.Error("Sealed hands out its argument")
	}
	if got, ok := impl.Unsealed(sealed); !ok || sharesMemory(got, sealed) {
		t.Errorf("Unsealed hands out its argument: %q, %v", got, ok)
	}
}
