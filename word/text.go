package word

import "quern/api"

const (
	hexDigits     = "0123456789abcdef"
	base64Letters = "ABCDEFGHIJKLMNOPQRSTUVWXYZabcdefghijklmnopqrstuvwxyz0123456789+/"
)

// noWorth is told of a byte that is no digit, no letter.
const noWorth = -1

// Hex tells b by two digits a byte.
func Hex(b []byte) string {
	text := make([]byte, 0, 2*len(b))
	for i := range len(b) {
		text = append(text, hexDigits[b[i]>>4], hexDigits[b[i]&15])
	}
	return string(text)
}

// UnHex tells the bytes of which s is the digits, or ErrForm and the place of the first fault.
func UnHex(s string) ([]byte, int, api.Errno) {
	// A byte that is no digit comes ahead of an odd length, wherever it stands.
	if at := firstStranger(s, hexWorth); at < len(s) || len(s)%2 != 0 {
		return nil, at, api.ErrForm
	}
	b := make([]byte, len(s)/2)
	for i := range len(b) {
		b[i] = byte(hexWorth(s[2*i])<<4 | hexWorth(s[2*i+1]))
	}
	return b, 0, api.OK
}

// Base64 tells b by six bits a letter, and fills nothing up.
func Base64(b []byte) string {
	text := make([]byte, 0, len(b)/3*4+(len(b)%3*8+5)/6)
	var held uint32 // its lowest free bits are told by no letter yet; what is above them goes out by itself
	free := 0
	for i := range len(b) {
		held = held<<8 | uint32(b[i])
		free += 8
		for free >= 6 {
			free -= 6
			text = append(text, base64Letters[held>>free&63])
		}
	}
	if free > 0 {
		text = append(text, base64Letters[held<<(6-free)&63])
	}
	return string(text)
}

// UnBase64 tells the bytes of which s is Base64, or ErrForm and the place of the first fault.
func UnBase64(s string) ([]byte, int, api.Errno) {
	if at := firstStranger(s, base64Worth); at < len(s) || len(s)%4 == 1 {
		return nil, at, api.ErrForm
	}
	b := make([]byte, 0, len(s)/4*3+len(s)%4*6/8)
	var held uint32 // its lowest free bits belong to no byte yet
	free := 0
	for i := range len(s) {
		held = held<<6 | uint32(base64Worth(s[i]))
		free += 6
		if free >= 8 {
			free -= 8
			b = append(b, byte(held>>free))
		}
	}
	// Were such bits taken, two texts would be read as the same bytes.
	if held&(1<<free-1) != 0 {
		return nil, len(s) - 1, api.ErrForm
	}
	return b, 0, api.OK
}

// firstStranger tells the place of the first byte of s that has no worth; the length of s, if there is none.
func firstStranger(s string, worth func(byte) int) int {
	for i := range len(s) {
		if worth(s[i]) == noWorth {
			return i
		}
	}
	return len(s)
}

func hexWorth(c byte) int {
	switch {
	case '0' <= c && c <= '9':
		return int(c - '0')
	case 'a' <= c && c <= 'f':
		return int(c-'a') + 10
	case 'A' <= c && c <= 'F':
		return int(c-'A') + 10
	}
	return noWorth
}

func base64Worth(c byte) int {
	switch {
	case 'A' <= c && c <= 'Z':
		return int(c - 'A')
	case 'a' <= c && c <= 'z':
		return int(c-'a') + 26
	case '0' <= c && c <= '9':
		return int(c-'0') + 52
	case c == '+':
		return 62
	case c == '/':
		return 63
	}
	return noWorth
}
