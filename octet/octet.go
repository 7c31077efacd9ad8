// Package octet: bytes, and numbers: see DOC.md, chapter 1.
package octet

import "bandbox/api"

// most is how many bytes a number has.
const most = 8

const digits = "0123456789abcdef"

// Big puts a number behind bytes, the highest first.
func Big(b []byte, v uint64, n int) []byte {
	n = width(n)
	out := roomier(b, n)
	for i := n - 1; i >= 0; i-- {
		out = append(out, byte(v>>(8*i)))
	}
	return out
}

// Little puts it, the lowest first.
func Little(b []byte, v uint64, n int) []byte {
	n = width(n)
	out := roomier(b, n)
	for i := range n {
		out = append(out, byte(v>>(8*i)))
	}
	return out
}

// FromBig reads one.
func FromBig(b []byte) (uint64, api.Errno) {
	if len(b) > most {
		return 0, api.EARG
	}
	var v uint64
	for _, c := range b {
		v = v<<8 | uint64(c)
	}
	return v, api.OK
}

// FromLittle reads one.
func FromLittle(b []byte) (uint64, api.Errno) {
	if len(b) > most {
		return 0, api.EARG
	}
	var v uint64
	for i, c := range b {
		v |= uint64(c) << (8 * i)
	}
	return v, api.OK
}

// Hex writes bytes in digits.
func Hex(b []byte) string {
	out := make([]byte, 0, 2*len(b))
	for _, c := range b {
		out = append(out, digits[c>>4], digits[c&15])
	}
	return string(out)
}

// Unhex reads them.
func Unhex(s string) ([]byte, api.Errno) {
	if len(s)%2 != 0 {
		return nil, api.EFORM
	}
	out := make([]byte, len(s)/2)
	for i := range out {
		high, ok := nibble(s[2*i])
		low, too := nibble(s[2*i+1])
		if !ok || !too {
			return nil, api.EFORM
		}
		out[i] = high<<4 | low
	}
	return out, api.OK
}

// Equal tells whether bytes are alike.
func Equal(a, b []byte) bool {
	// No way out ahead of the end: the time must not tell where they differ.
	unlike := len(a) ^ len(b)
	for i := range min(len(a), len(b)) {
		unlike |= int(a[i] ^ b[i])
	}
	return unlike == 0
}

// Xor puts two on one another.
func Xor(a, b []byte) []byte {
	out := make([]byte, min(len(a), len(b)))
	for i := range out {
		out[i] = a[i] ^ b[i]
	}
	return out
}

// Turn turns bytes about.
func Turn(b []byte) []byte {
	out := make([]byte, len(b))
	for i, c := range b {
		out[len(b)-1-i] = c
	}
	return out
}

// width is how many bytes of a number are asked for.
func width(n int) int {
	return min(max(n, 0), most)
}

// roomier copies b with room for n more: what is put behind it must not fall into b's own spare room.
func roomier(b []byte, n int) []byte {
	out := make([]byte, len(b), len(b)+n)
	copy(out, b)
	return out
}

// nibble reads one digit; Hex writes small letters alone, so no others count.
func nibble(c byte) (byte, bool) {
	switch {
	case '0' <= c && c <= '9':
		return c - '0', true
	case 'a' <= c && c <= 'f':
		return c - 'a' + 10, true
	}
	return 0, false
}
