package conf_test

import (
	"testing"

	"tallyhouse/api"
	"tallyhouse/conf"
)

// P8.2: the chapter's examples.
func TestExamplesOfMajority(t *testing.T) {
	if !conf.Majority(of(1, 2, 4), []int{4, 1}) {
		t.Error("not Majority(1 2 4, 4 1)")
	}
	if conf.Majority(of(1, 2, 4), []int{4, 4, 5}) {
		t.Error("Majority(1 2 4, 4 4 5)")
	}
	if conf.Majority(of(1, 2, 4, 5), []int{1, 5}) {
		t.Error("Majority(1 2 4 5, 1 5)")
	}
	l := []api.Match{{Member: 2, Index: 7}, {Member: 4, Index: 6}}
	if x := conf.Agreed(of(1, 2, 4), l); x != 6 {
		t.Errorf("Agreed: %d", x)
	}
	if x := conf.Agreed(of(1, 2, 4), append(l, api.Match{Member: 1, Index: 9})); x != 7 {
		t.Errorf("Agreed with 1: 9 besides: %d", x)
	}
}

// P8.3: the chapter's examples.
func TestExamplesOfChange(t *testing.T) {
	for _, q := range []struct {
		name string
		do   func(c api.Conf, member int) (api.Conf, api.Errno)
		c    api.Conf
		n    int
		want string
		err  api.Errno
	}{
		{"Add(2 4, 3)", conf.Add, of(2, 4), 3, "[ 2 3 4 ]", api.OK},
		{"Add(2 4, 4)", conf.Add, of(2, 4), 4, "[ ]", api.ErrThere},
		{"Add(2 4, 0)", conf.Add, of(2, 4), 0, "[ ]", api.ErrArg},
		{"Drop(3, 3)", conf.Drop, of(3), 3, "[ ]", api.ErrConf},
	} {
		if out, err := q.do(q.c, q.n); said(out.Members) != q.want || err != q.err {
			t.Errorf("%s: %s %d", q.name, said(out.Members), err)
		}
	}
	if err := conf.Step(of(1, 2), of(1, 2, 5)); err != api.OK {
		t.Errorf("Step(1 2, 1 2 5): %d", err)
	}
	if err := conf.Step(of(1, 2), of(1, 5)); err != api.ErrStep {
		t.Errorf("Step(1 2, 1 5): %d", err)
	}
	if err := conf.Step(api.Conf{}, of(1)); err != api.ErrConf {
		t.Errorf("Step(none, 1): %d", err)
	}
}

// P8.4: the chapter's examples.
func TestExamplesOfBytes(t *testing.T) {
	if b, err := conf.Encode(of(2, 5)); string(b) != "\x02\x02\x05" || err != api.OK {
		t.Errorf("Encode(2 5): %x %d", b, err)
	}
	for b, want := range map[string]api.Errno{"\x02\x05": api.ErrShort, "\x01\x02\x05": api.ErrConf, "\x02\x05\x02": api.ErrConf} {
		if c, err := conf.Decode([]byte(b)); len(c.Members) > 0 || err != want {
			t.Errorf("Decode(%x): %s %d", b, said(c.Members), err)
		}
	}
}
