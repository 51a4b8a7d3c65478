package table_test

import (
	"fmt"
	"testing"

	"tallyhouse/api"
	"tallyhouse/table"
)

// P12.7: what calls tell, one behind the other, may be; what is refused changes nothing.
func TestWhatIsToldMayBe(t *testing.T) {
	c := chance(11)
	met := map[string]int{}
	for range 120 {
		var s api.Store
		for range 60 {
			was := said(s)
			next, call, err := c.step(s)
			if said(s) != was {
				t.Fatalf("%s changes %s into %s", call, was, said(s))
			}
			met[fmt.Sprint(call, " ", err == api.OK)]++
			if err != api.OK {
				if said(next) != "" {
					t.Fatalf("%s: %d, and tables: %s", call, err, said(next))
				}
				continue
			}
			if table.Check(next) != api.OK || !modelStore(next) {
				t.Fatalf("%s of %s may not be: %s", call, was, said(next))
			}
			s = next
		}
	}
	for _, call := range []string{"Create", "Drop", "Insert", "Delete", "Replace"} {
		if met[call+" true"] < 50 || met[call+" false"] < 50 {
			t.Error(met)
		}
	}
}

// step is one call, by chance, most of those that do something else than dropping what there is.
func (c *chance) step(s api.Store) (api.Store, string, api.Errno) {
	if len(s.Tables) == 0 || c.oneIn(4) {
		next, err := table.Create(s, c.table(c.name()))
		return next, "Create", err
	}
	name, l, keys := c.fill(s)
	switch c.pick(12) {
	case 0, 1:
		next, err := table.Drop(s, c.name())
		return next, "Drop", err
	case 2, 3:
		next, _, err := table.Delete(s, name, keys[:c.pick(len(keys))+1])
		return next, "Delete", err
	case 4, 5:
		next, err := table.Replace(s, name, l)
		return next, "Replace", err
	}
	next, err := table.Insert(s, name, l)
	return next, "Insert", err
}

// P12.7: Drop of what was created leads back.
func TestDropOfCreate(t *testing.T) {
	c := chance(12)
	back := 0
	for range 4000 {
		s, x := c.store(), c.table(c.name())
		with, err := table.Create(s, x)
		if err != api.OK {
			continue
		}
		got, err := table.Drop(with, x.Name)
		tells(t, "Drop of Create", got, err, s, api.OK)
		if !table.Same(got, s) || table.Same(with, s) {
			t.Fatalf("%s is not the same", said(got))
		}
		back++
	}
	if back < 1000 {
		t.Errorf("only %d", back)
	}
}

// P12.7: Delete of what was inserted leads back, and tells how many there were.
func TestDeleteOfInsert(t *testing.T) {
	c := chance(13)
	back := 0
	for range 4000 {
		s := c.store()
		name, l, _ := c.fill(s)
		with, err := table.Insert(s, name, l)
		if err != api.OK {
			continue
		}
		var keys []api.Value
		for _, r := range l {
			keys = append(keys, r[modelKey(s.Tables[modelFind(s, name)].Columns)])
		}
		got, gone, err := table.Delete(with, name, keys)
		tells(t, "Delete of Insert", got, err, s, api.OK)
		if gone != len(l) || !table.Same(got, s) || table.Same(with, s) != (len(l) == 0) {
			t.Fatalf("%d of %d have gone: %s", gone, len(l), said(got))
		}
		back++
	}
	if back < 1000 {
		t.Errorf("only %d", back)
	}
}

// P12.7: what was put in is found again.
func TestFoundAgain(t *testing.T) {
	c := chance(14)
	for range 2000 {
		s := c.store()
		for _, x := range s.Tables {
			if got, ok := table.Find(s, x.Name); !ok || saidTable(got) != saidTable(x) {
				t.Fatalf("%s: %s", x.Name, saidTable(got))
			}
			key, _ := table.Key(x)
			for _, r := range x.Rows {
				if got, ok := table.Get(s, x.Name, r[key]); !ok || saidRow(got) != saidRow(r) {
					t.Fatalf("%s: %s", saidRow(r), saidRow(got))
				}
			}
			got, err := table.Replace(s, x.Name, x.Rows)
			tells(t, "Replace by the same", got, err, s, api.OK)
		}
	}
}

// pairsText is pairs as one text.
func pairsText(l []api.Cell) string {
	s := ""
	for _, p := range l {
		s += fmt.Sprintf("%q=%q;", p.Key, p.Value)
	}
	return s
}

// P12.7: the keys of pairs rise, none twice.
func TestKeysRise(t *testing.T) {
	c := chance(15)
	stores := []api.Store{}
	for _, s := range goodStores() {
		stores = append(stores, s)
	}
	for range 3000 {
		stores = append(stores, c.store())
	}
	for _, s := range stores {
		l := table.Pairs(s)
		count := len(s.Tables)
		for _, x := range s.Tables {
			count += len(x.Rows)
		}
		if len(l) != count {
			t.Fatalf("%d pairs of %s", len(l), said(s))
		}
		for i, p := range l {
			if i > 0 && l[i-1].Key >= p.Key {
				t.Fatalf("%q stands ahead of %q", l[i-1].Key, p.Key)
			}
			if len(p.Key) > api.MaxKey || len(p.Value) > api.MaxWide || len(l) > api.MaxPairs {
				t.Fatalf("%q is too long", p)
			}
		}
	}
}

// P12.7: unlike tables have unlike pairs and unlike bytes, like ones have like ones.
func TestUnlikeTables(t *testing.T) {
	c := chance(16)
	byPairs, byBytes := map[string]string{}, map[string]string{}
	for range 3000 {
		s := c.store()
		for _, x := range []api.Store{s, c.spoilt(s), c.spoilt(s), c.spoilt(s)} {
			if table.Check(x) != api.OK {
				continue
			}
			b, _ := table.Encode(x)
			for _, seen := range []struct {
				in  map[string]string
				key string
			}{{byPairs, pairsText(table.Pairs(x))}, {byBytes, string(b)}} {
				if other, ok := seen.in[seen.key]; ok && other != said(x) {
					t.Fatalf("%s and %s have the same: %q", other, said(x), seen.key)
				}
				seen.in[seen.key] = said(x)
			}
		}
	}
	unlike := map[string]int{}
	for _, text := range byPairs {
		unlike[text]++
	}
	if len(unlike) != len(byPairs) || len(byBytes) != len(byPairs) || len(byPairs) < 2000 {
		t.Errorf("%d tables, %d of pairs, %d of bytes", len(unlike), len(byPairs), len(byBytes))
	}
}

// P12.7: Decode of Encode is the same; Encode of Decode, too.
func TestDecodeOfEncode(t *testing.T) {
	c := chance(17)
	for range 3000 {
		s := c.store()
		b, err := table.Encode(s)
		if err != api.OK {
			t.Fatalf("%s: %d", said(s), err)
		}
		got, err := table.Decode(b)
		tells(t, "Decode of Encode", got, err, s, api.OK)
		if again, err := table.Encode(got); err != api.OK || string(again) != string(b) || !table.Same(got, s) {
			t.Fatalf("%s: %d %q", said(s), err, again)
		}
	}
}
