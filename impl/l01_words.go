package impl

import (
	"strconv"
	"strings"
)

const (
	MaxText   = 20000
	MaxNumber = 1000000000
	MaxWords  = 600
	MaxParts  = 10
)

// maxVarBytes is how many bytes MaxNumber takes; reading no further keeps a
// number from growing past what an int holds.
const maxVarBytes = 5

const hexFigures = "0123456789abcdef"

func VarText(n int) (string, bool) {
	if n < 0 || n > MaxNumber {
		return "", false
	}
	out := []byte{}
	for n > 127 {
		out = append(out, byte(n%128+128))
		n /= 128
	}
	return string(append(out, byte(n))), true
}

func ReadVar(text string, at int) (int, int, bool) {
	if at < 0 || at > len(text) {
		return 0, 0, false
	}
	n := 0
	for used := 0; used < maxVarBytes && used < len(text)-at; used++ {
		b := int(text[at+used])
		n += (b % 128) << (7 * used)
		if b > 127 {
			continue
		}
		// A last byte of 0 behind others adds nothing: VarText is shorter.
		if b == 0 && used > 0 || n > MaxNumber {
			break
		}
		return n, at + used + 1, true
	}
	return 0, 0, false
}

func ShortText(s string) (string, bool) {
	if len(s) > MaxText {
		return "", false
	}
	size, ok := VarText(len(s))
	return size + s, ok
}

func ReadShort(text string, at int) (string, int, bool) {
	size, from, ok := ReadVar(text, at)
	if !ok || size > MaxText || size > len(text)-from {
		return "", 0, false
	}
	return strings.Clone(text[from : from+size]), from + size, true
}

func Hex(text string) (string, bool) {
	if len(text) > MaxText {
		return "", false
	}
	out := make([]byte, 0, 2*len(text))
	for at := 0; at < len(text); at++ {
		out = append(out, hexFigures[text[at]>>4], hexFigures[text[at]&15])
	}
	return string(out), true
}

func Unhex(text string) (string, bool) {
	if len(text)%2 != 0 || len(text) > 2*MaxText {
		return "", false
	}
	out := make([]byte, len(text)/2)
	at := 0
figures:
	for ; at < len(text); at++ {
		half := text[at]
		switch {
		case half >= '0' && half <= '9':
			half -= '0'
		case half >= 'a' && half <= 'f':
			half -= 'a' - 10
		default:
			break figures
		}
		out[at/2] = out[at/2]<<4 | half
	}
	if at < len(text) {
		return "", false
	}
	return string(out), true
}

func Decimal(n int) string {
	return strconv.Itoa(n)
}

func ReadDecimal(text string) (int, bool) {
	if text == "" || len(text) > 1 && text[0] == '0' {
		return 0, false
	}
	n, at := 0, 0
figures:
	for ; at < len(text); at++ {
		switch c := text[at]; {
		case c < '0' || c > '9':
			break figures
		default:
			n = n*10 + int(c-'0')
		}
		// Left at once, so that no length of text makes n wrap round.
		if n > MaxNumber {
			break figures
		}
	}
	if at < len(text) {
		return 0, false
	}
	return n, true
}

func PartsOf(line string) ([]string, bool) {
	if len(line) > MaxWords || !plainLine(line) {
		return []string{}, false
	}
	// In a plain line the blank is the only white space that Fields knows.
	parts := strings.Fields(line)
	if len(parts) > MaxParts {
		return []string{}, false
	}
	for at, part := range parts {
		parts[at] = strings.Clone(part)
	}
	return parts, true
}

func plainLine(line string) bool {
	for at := 0; at < len(line); at++ {
		if line[at] < 32 || line[at] > 126 {
			return false
		}
	}
	return true
}
