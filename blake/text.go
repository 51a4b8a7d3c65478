package blake

import (
	"bytes"
	"strings"

	"tallyhouse/api"
)

// digits is each digit at the place of what it counts.
const digits = "0123456789abcdef"

// Text: P3.3.
func Text(id api.Id) string {
	out := make([]byte, 0, 2*len(id))
	for _, b := range id {
		out = append(out, digits[b>>4], digits[b&15])
	}
	return string(out)
}

// Parse: P3.3.
func Parse(s string) (api.Id, api.Errno) {
	var id api.Id
	if len(s) != 2*len(id) {
		return api.Id{}, api.ErrId
	}
	for i := range id {
		high, low := strings.IndexByte(digits, s[2*i]), strings.IndexByte(digits, s[2*i+1])
		if high < 0 || low < 0 {
			return api.Id{}, api.ErrId
		}
		id[i] = byte(high<<4 | low)
	}
	return id, api.OK
}

// Less: P3.3.
func Less(a, b api.Id) bool {
	return bytes.Compare(a[:], b[:]) < 0
}
