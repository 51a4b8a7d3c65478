package value

import (
	"tallyhouse/api"
	"tallyhouse/octet"
)

const (
	// top turns a number's sign, so that those below 0 stand ahead of the others.
	top = 1 << 63
	// inner stands behind a nought that is a text's own; a nought behind a nought ends the text.
	inner = 0xff
)

// Encode: P5.5.
func Encode(v api.Value) ([]byte, api.Errno) {
	if err := Check(v); err != api.OK {
		return nil, err
	}
	b := []byte{byte(v.Kind)}
	switch v.Kind {
	case api.ValBool:
		b = append(b, byte(v.Num))
	case api.ValInt:
		b = octet.Put64(b, uint64(v.Num)^top)
	case api.ValText:
		b = putText(b, v.Text)
	}
	return b, api.OK
}

// putText adds to b, which is to be the package's own.
func putText(b []byte, s string) []byte {
	for i := range len(s) {
		b = append(b, s[i])
		if s[i] == 0 {
			b = append(b, inner)
		}
	}
	return append(b, 0, 0)
}

// Decode: P5.5. The reader is asked first: where it has ended, what seems wrong are its noughts.
func Decode(b []byte) (api.Value, int, api.Errno) {
	r := octet.Read(b)
	v, ok := take(r)
	switch {
	case r.Err() != api.OK:
		return api.Value{}, 0, r.Err()
	case !ok:
		return api.Value{}, 0, api.ErrValue
	}
	return v, r.At(), api.OK
}

// take reads a value, and no byte behind the first one that is wrong.
func take(r *octet.Reader) (api.Value, bool) {
	switch r.U8() {
	case api.ValNull:
		return Null(), true
	case api.ValBool:
		b := r.U8()
		return Bool(b == 1), b <= 1
	case api.ValInt:
		return Int(int64(r.U64() ^ top)), true
	case api.ValText:
		s, ok := takeText(r)
		return Text(s), ok
	}
	return api.Value{}, false
}

// takeText ends where the reader does, too, as it gives noughts from there on.
func takeText(r *octet.Reader) (string, bool) {
	var text []byte
	for {
		c := r.U8()
		if c == 0 {
			behind := r.U8()
			if behind != inner {
				return string(text), behind == 0
			}
		}
		if len(text) == api.MaxText {
			return "", false
		}
		text = append(text, c)
	}
}
