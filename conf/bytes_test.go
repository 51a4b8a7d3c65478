package conf_test

import (
	"bytes"
	"slices"
	"testing"

	"tallyhouse/api"
	"tallyhouse/conf"
)

// P8.4: how many, and each one.
func TestEncode(t *testing.T) {
	for _, list := range groups() {
		b, err := conf.Encode(of(list...))
		want, _ := modelEncode(list)
		if !bytes.Equal(b, want) || err != api.OK {
			t.Errorf("Encode(%s): %x %d", said(list), b, err)
		}
	}
	if b, err := conf.Encode(of(1, 2, 3, 4, 5)); string(b) != "\x05\x01\x02\x03\x04\x05" || err != api.OK {
		t.Errorf("Encode of all: %x %d", b, err)
	}
}

// decodes tells whether Decode answers what the model does.
func decodes(t *testing.T, b []byte) api.Errno {
	t.Helper()
	c, err := conf.Decode(b)
	want, wrong := modelDecode(b)
	if said(c.Members) != said(want) || err != wrong {
		t.Fatalf("Decode(%x): %s %d", b, said(c.Members), err)
	}
	return err
}

// P8.4: all short lists of the bytes that mean something.
func TestDecode(t *testing.T) {
	right := 0
	for b := range lists([]byte{0, 1, 2, 3, 4, 5, 6, 0xFF}, 6) {
		if decodes(t, b) == api.OK {
			right++
		}
	}
	if right != 31 {
		t.Errorf("%d are members", right)
	}
}

// P8.4: each number of bytes that the first one says, with fewer, just as many, and more behind it.
func TestDecodeOfEachCount(t *testing.T) {
	for count := range 256 {
		for behind := range 260 {
			rising := []byte{byte(count)}
			for i := range behind {
				rising = append(rising, byte(1+i))
			}
			decodes(t, rising)
			decodes(t, append([]byte{byte(count)}, make([]byte, behind)...))
			decodes(t, append([]byte{byte(count)}, slices.Repeat([]byte{1}, behind)...))
		}
	}
}

// P8.4: each byte in each place of what is right.
func TestDecodeOfTurnedBytes(t *testing.T) {
	for _, list := range groups() {
		b, _ := modelEncode(list)
		for i := range b {
			decodes(t, b[:i])
			for x := range 256 {
				turned := bytes.Clone(b)
				turned[i] = byte(x)
				decodes(t, turned)
				decodes(t, slices.Insert(bytes.Clone(b), i, byte(x)))
				decodes(t, append(bytes.Clone(b), byte(x)))
			}
			decodes(t, slices.Delete(bytes.Clone(b), i, i+1))
		}
	}
}

// P8.4: each reason for which bytes are none of members, by itself.
func TestDecodeByHand(t *testing.T) {
	for _, q := range []struct {
		b    string
		want api.Errno
	}{
		{"", api.ErrShort},
		{"\x01", api.ErrShort},
		{"\x02\x05", api.ErrShort},
		{"\x05\x01\x02\x03\x04", api.ErrShort},
		{"\x06\x01\x02\x03\x04\x05", api.ErrShort},
		{"\xFF\x01", api.ErrShort},
		{"\x02\x09", api.ErrShort},
		{"\x00", api.ErrConf},
		{"\x00\x01", api.ErrConf},
		{"\x01\x02\x05", api.ErrConf},
		{"\x02\x01\x02\x03", api.ErrConf},
		{"\x01\x00", api.ErrConf},
		{"\x01\x06", api.ErrConf},
		{"\x02\x00\x01", api.ErrConf},
		{"\x02\x01\x06", api.ErrConf},
		{"\x02\x01\x01", api.ErrConf},
		{"\x02\x02\x01", api.ErrConf},
		{"\x03\x01\x05\x04", api.ErrConf},
		{"\x01\xFF", api.ErrConf},
		{"\x06\x01\x02\x03\x04\x05\x06", api.ErrConf},
	} {
		if c, err := conf.Decode([]byte(q.b)); err != q.want || len(c.Members) > 0 {
			t.Errorf("Decode(%x): %s %d", q.b, said(c.Members), err)
		}
	}
	if _, err := conf.Decode(nil); err != api.ErrShort {
		t.Errorf("Decode of nothing: %d", err)
	}
	if _, err := conf.Decode(make([]byte, 1<<20)); err != api.ErrConf {
		t.Errorf("Decode of many noughts: %d", err)
	}
}
