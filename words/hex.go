package words

import "shale/api"

const digits = "0123456789abcdef"

// Hex writes bytes in digits.
func Hex(b []byte) string {
	text := make([]byte, 0, 2*len(b))
	for _, x := range b {
		text = append(text, digits[x>>4], digits[x&15])
	}
	return string(text)
}

// Unhex reads them.
func Unhex(s string) ([]byte, api.Errno) {
	if len(s)%2 != 0 {
		return nil, api.ErrDigits
	}
	b := make([]byte, len(s)/2)
	for i := range b {
		high, isHigh := worth(s[2*i])
		low, isLow := worth(s[2*i+1])
		if !isHigh || !isLow {
			return nil, api.ErrDigits
		}
		b[i] = high<<4 | low
	}
	return b, api.OK
}

func worth(digit byte) (byte, bool) {
	switch {
	case digit >= '0' && digit <= '9':
		return digit - '0', true
	case digit >= 'a' && digit <= 'f':
		return digit - 'a' + 10, true
	}
	return 0, false
}
