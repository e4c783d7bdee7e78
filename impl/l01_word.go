package impl

import "strconv"

const MaxText = 100

const (
	maxWord   = 65535
	maxDigits = 5
	sumPoly   = 69665
)

// joined copies b because an append in place could write to its spare capacity.
func joined(b []byte, more ...byte) []byte {
	whole := make([]byte, 0, len(b)+len(more))
	whole = append(whole, b...)
	return append(whole, more...)
}

func PutWord(b []byte, n int) []byte {
	return joined(b, byte(n>>8), byte(n))
}

func GetWord(b []byte, at int) (int, int, bool) {
	if at < 0 || at > len(b)-2 {
		return 0, 0, false
	}
	return int(b[at])<<8 | int(b[at+1]), at + 2, true
}

func TextOk(s string) bool {
	if len(s) > MaxText {
		return false
	}
	for i := range len(s) {
		if s[i] < 32 || s[i] > 126 {
			return false
		}
	}
	return true
}

func PutText(b []byte, s string) []byte {
	if !TextOk(s) {
		return joined(b)
	}
	return joined(joined(b, byte(len(s))), []byte(s)...)
}

func GetText(b []byte, at int) (string, int, bool) {
	if at < 0 || at >= len(b) {
		return "", 0, false
	}
	from := at + 1
	size := int(b[at])
	if size > len(b)-from {
		return "", 0, false
	}
	s := string(b[from : from+size])
	if !TextOk(s) {
		return "", 0, false
	}
	return s, from + size, true
}

func Sum(b []byte) int {
	s := maxWord
	for _, x := range b {
		s ^= 256 * int(x)
		for range 8 {
			s *= 2
			if s > maxWord {
				s ^= sumPoly
			}
		}
	}
	return s & maxWord
}

func NumText(n int) string {
	return strconv.Itoa(n)
}

func ParseNum(s string, most int) (int, bool) {
	if most > maxWord || len(s) > maxDigits {
		return 0, false
	}
	n := 0
	for _, r := range s {
		if r < '0' || r > '9' {
			return 0, false
		}
		n = 10*n + int(r-'0')
	}
	// The comparison of the texts rejects leading zeros and the empty string.
	if n > most || NumText(n) != s {
		return 0, false
	}
	return n, true
}
