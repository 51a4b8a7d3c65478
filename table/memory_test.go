package table_test

import (
	"fmt"
	"slices"
	"strconv"
	"strings"
	"testing"
	"unsafe"

	"tallyhouse/api"
	"tallyhouse/table"
)

// memory is what a test has handed in, all of which it can write over: texts whose bytes are its own, and lists with room behind their ends.
type memory struct {
	texts [][]byte
	lists []func()
	seen  []func() string
}

// text is the same text in bytes that can be written over.
func (m *memory) text(s string) string {
	if s == "" {
		return ""
	}
	b := []byte(s)
	m.texts = append(m.texts, b)
	m.seen = append(m.seen, func() string { return string(b) })
	return unsafe.String(&b[0], len(b))
}

// roomy is a list with room behind its end, in which something stands.
func roomy[T any](m *memory, l []T, room T) []T {
	all := append(slices.Clone(l), room, room, room)
	m.lists = append(m.lists, func() {
		for i := range all {
			all[i] = room
		}
	})
	m.seen = append(m.seen, func() string { return fmt.Sprint(all) })
	return all[:len(l)]
}

func (m *memory) value(v api.Value) api.Value {
	v.Text = m.text(v.Text)
	return v
}

func (m *memory) row(r []api.Value) []api.Value {
	var out []api.Value
	for _, v := range r {
		out = append(out, m.value(v))
	}
	return roomy(m, out, api.Value{Kind: 77, Num: 7, Text: "room"})
}

func (m *memory) rows(l [][]api.Value) [][]api.Value {
	var out [][]api.Value
	for _, r := range l {
		out = append(out, m.row(r))
	}
	return roomy(m, out, row("room"))
}

func (m *memory) table(t api.Table) api.Table {
	var columns []api.Defined
	for _, c := range t.Columns {
		c.Name = m.text(c.Name)
		columns = append(columns, c)
	}
	return api.Table{Name: m.text(t.Name), Columns: roomy(m, columns, api.Defined{Name: "room", Type: 77, Key: true}), Rows: m.rows(t.Rows)}
}

func (m *memory) store(s api.Store) api.Store {
	var out []api.Table
	for _, t := range s.Tables {
		out = append(out, m.table(t))
	}
	return api.Store{Tables: roomy(m, out, api.Table{Name: "room"})}
}

// holds is all that was handed in, the room behind lists, too.
func (m *memory) holds() string {
	s := ""
	for _, seen := range m.seen {
		s += seen() + "\n"
	}
	return s
}

// spoil writes over all of it.
func (m *memory) spoil() {
	for _, b := range m.texts {
		for i := range b {
			b[i] = '?'
		}
	}
	for _, spoil := range m.lists {
		spoil()
	}
}

// asked is a call of what it is handed, and its answer as a text, told when it is asked for.
type asked struct {
	name string
	call func(m *memory) func() string
}

func tables(s api.Store, err api.Errno) func() string {
	return func() string { return fmt.Sprint(err, said(s)) }
}

// calls are all calls, of tables and of rows for the table t.
func calls(s api.Store, x api.Table, l [][]api.Value, keys []api.Value) []asked {
	return []asked{
		{"Check", func(m *memory) func() string {
			err := table.Check(m.store(s))
			return func() string { return fmt.Sprint(err) }
		}},
		{"CheckTable", func(m *memory) func() string {
			err := table.CheckTable(m.table(x))
			return func() string { return fmt.Sprint(err) }
		}},
		{"CheckRow", func(m *memory) func() string {
			err := table.CheckRow(m.table(x), m.row(keys))
			return func() string { return fmt.Sprint(err) }
		}},
		{"Same", func(m *memory) func() string {
			same := table.Same(m.store(s), m.store(s))
			return func() string { return fmt.Sprint(same) }
		}},
		{"Create", func(m *memory) func() string { return tables(table.Create(m.store(s), m.table(x))) }},
		{"Drop", func(m *memory) func() string { return tables(table.Drop(m.store(s), m.text("t"))) }},
		{"Insert", func(m *memory) func() string { return tables(table.Insert(m.store(s), m.text("t"), m.rows(l))) }},
		{"Replace", func(m *memory) func() string { return tables(table.Replace(m.store(s), m.text("t"), m.rows(l))) }},
		{"Delete", func(m *memory) func() string {
			got, gone, err := table.Delete(m.store(s), m.text("t"), m.row(keys))
			return func() string { return fmt.Sprint(gone, err, said(got)) }
		}},
		{"Find", func(m *memory) func() string {
			got, ok := table.Find(m.store(s), m.text("t"))
			return func() string { return fmt.Sprint(ok, saidTable(got)) }
		}},
		{"Get", func(m *memory) func() string {
			got, ok := table.Get(m.store(s), m.text("t"), m.value(keys[0]))
			return func() string { return fmt.Sprint(ok, saidRow(got)) }
		}},
		{"Column", func(m *memory) func() string {
			at, ok := table.Column(m.table(x), m.text("b"))
			return func() string { return fmt.Sprint(at, ok) }
		}},
		{"Key", func(m *memory) func() string {
			at, ok := table.Key(m.table(x))
			return func() string { return fmt.Sprint(at, ok) }
		}},
		{"Pairs", func(m *memory) func() string {
			got := table.Pairs(m.store(s))
			return func() string { return pairsText(got) }
		}},
		{"RowKey", func(m *memory) func() string {
			got := table.RowKey(m.text("t"), m.value(keys[0]))
			return func() string { return got }
		}},
		{"RowBytes", func(m *memory) func() string {
			got := table.RowBytes(m.row(keys))
			return func() string { return got }
		}},
		{"Encode", func(m *memory) func() string {
			got, err := table.Encode(m.store(s))
			return func() string { return fmt.Sprintf("%d %q", err, got) }
		}},
		{"Decode", func(m *memory) func() string {
			got, err := table.Decode(roomy(m, []byte(modelBytes(s)), '!'))
			return func() string { return fmt.Sprint(err, said(got)) }
		}},
	}
}

// texts is tables most of whose values are texts.
func texts() api.Store {
	return of(
		tab("left", "name TEXT KEY, much TEXT", row("a", "first")),
		tab("t", "b TEXT KEY, said TEXT", row("b", "here"), row("d", nil), row("f", "there")),
		tab("under", "k INT KEY", row(1), row(2)),
	)
}

// R3: no call changes what it is handed, or the room behind it; none keeps it.
func TestNothingIsChangedOrKept(t *testing.T) {
	news := tab("more", "b BOOL, k TEXT KEY", row(true, "in"), row(nil, "on"))
	good := rows(row("z", "last"), row("c", "amid"), row("a", nil))
	if !modelStore(texts()) || !modelTable(news) {
		t.Fatal("these are to be tables that may be")
	}
	for _, l := range [][][]api.Value{good, nil, rows(row("z", 1)), rows(row("q", "q"), row("q", "q")), rows(row("d", "x"))} {
		for _, keys := range rows(row("f", "b"), row("none"), row(nil, api.Value{Text: "odd"})) {
			for _, s := range []api.Store{texts(), {}, of(texts().Tables[1]), of(texts().Tables[1], texts().Tables[0])} {
				for _, x := range calls(s, news, l, keys) {
					var m memory
					got := x.call(&m)
					want := got()
					var fresh memory
					x.call(&fresh)
					if m.holds() != fresh.holds() || m.holds() != untouched(x, s, news, l, keys) {
						t.Errorf("%s changes what it is handed: %s", x.name, m.holds())
					}
					m.spoil()
					if got() != want {
						t.Errorf("%s keeps what it is handed: %s; not %s", x.name, got(), want)
					}
				}
			}
		}
	}
}

// untouched is what a call's arguments hold, if no call was made with them.
func untouched(x asked, s api.Store, t api.Table, l [][]api.Value, keys []api.Value) string {
	var m memory
	switch x.name {
	case "Check", "Pairs", "Encode":
		m.store(s)
	case "Same":
		m.store(s)
		m.store(s)
	case "CheckTable", "Key":
		m.table(t)
	case "CheckRow":
		m.table(t)
		m.row(keys)
	case "Create":
		m.store(s)
		m.table(t)
	case "Drop", "Find":
		m.store(s)
		m.text("t")
	case "Insert", "Replace":
		m.store(s)
		m.text("t")
		m.rows(l)
	case "Delete":
		m.store(s)
		m.text("t")
		m.row(keys)
	case "Get":
		m.store(s)
		m.text("t")
		m.value(keys[0])
	case "Column":
		m.table(t)
		m.text("b")
	case "RowKey":
		m.text("t")
		m.value(keys[0])
	case "RowBytes":
		m.row(keys)
	case "Decode":
		roomy(&m, []byte(modelBytes(s)), '!')
	}
	return m.holds()
}

// list is a list of an answer, with the room behind it: what stands in it, but for what lists in it hold, and what writes over it.
type list struct {
	seen  func() string
	spoil func()
}

func listOf[T any](l []T, bad T, shallow func(T) string) list {
	all := l[:cap(l)]
	return list{
		func() string {
			s := ""
			for _, x := range all {
				s += shallow(x) + ","
			}
			return s
		},
		func() {
			for i := range all {
				all[i] = bad
			}
		},
	}
}

// listsOf are all lists of tables.
func listsOf(s api.Store) []list {
	out := []list{listOf(s.Tables, api.Table{Name: "?"}, func(t api.Table) string {
		return fmt.Sprint(t.Name, len(t.Columns), len(t.Rows))
	})}
	for _, t := range s.Tables {
		out = append(out, listOf(t.Columns, api.Defined{Name: "?"}, func(c api.Defined) string { return fmt.Sprint(c) }))
		out = append(out, listOf(t.Rows, row("?", "?", "?", "?"), func(r []api.Value) string { return strconv.Itoa(len(r)) }))
		for _, r := range t.Rows {
			out = append(out, listOf(r, text("?"), func(v api.Value) string { return fmt.Sprint(v) }))
		}
	}
	return out
}

// answers are calls that answer tables.
func answers(s api.Store, x api.Table, l [][]api.Value, b []byte) map[string]func() (api.Store, api.Errno) {
	return map[string]func() (api.Store, api.Errno){
		"Create":  func() (api.Store, api.Errno) { return table.Create(s, x) },
		"Drop":    func() (api.Store, api.Errno) { return table.Drop(s, "t") },
		"Insert":  func() (api.Store, api.Errno) { return table.Insert(s, "t", l) },
		"Replace": func() (api.Store, api.Errno) { return table.Replace(s, "t", l) },
		"Delete": func() (api.Store, api.Errno) {
			got, _, err := table.Delete(s, "t", row("d"))
			return got, err
		},
		"Delete of none": func() (api.Store, api.Errno) {
			got, _, err := table.Delete(s, "t", nil)
			return got, err
		},
		"Insert of none": func() (api.Store, api.Errno) { return table.Insert(s, "t", nil) },
		"Decode":         func() (api.Store, api.Errno) { return table.Decode(b) },
		"Find": func() (api.Store, api.Errno) {
			got, _ := table.Find(s, "t")
			return of(got), api.OK
		},
		"Get": func() (api.Store, api.Errno) {
			got, _ := table.Get(s, "t", text("f"))
			return of(api.Table{Rows: rows(got)}), api.OK
		},
	}
}

// R3: no two lists of one answer share their memory; none is one of another answer, or of what was handed in.
func TestAnswersShareNothing(t *testing.T) {
	s, x := texts(), tab("more", "b BOOL, k TEXT KEY", row(true, "in"), row(nil, "on"))
	l := rows(row("c", "amid"), row("g", nil), row("z", "last"))
	b := []byte(modelBytes(s))
	was := said(s) + saidTable(x) + fmt.Sprint(l)
	for name, call := range answers(s, x, l, b) {
		got, err := call()
		if err != api.OK || said(got) == "" {
			t.Fatalf("%s: %d %s", name, err, said(got))
		}
		whole, _ := call()
		want := said(got)
		lists := listsOf(got)
		for i := range lists {
			ahead := seenOf(lists[i+1:])
			lists[i].spoil()
			if !slices.Equal(seenOf(lists[i+1:]), ahead) {
				t.Errorf("%s: list %d is one of the others", name, i)
			}
		}
		if said(whole) != want {
			t.Errorf("%s: two answers share a list", name)
		}
		if said(s)+saidTable(x)+fmt.Sprint(l) != was {
			t.Errorf("%s: a list is one of what was handed in", name)
		}
	}
}

func seenOf(lists []list) []string {
	var out []string
	for _, l := range lists {
		out = append(out, l.seen())
	}
	return out
}

// R3: one row that is handed in twice, to two tables, is two rows then; so is a row that Get answers.
func TestRowsAreCopied(t *testing.T) {
	r := row(1, "x")
	s := of(tab("t", two), tab("u", two))
	s, _ = table.Insert(s, "t", rows(r))
	s, _ = table.Insert(s, "u", rows(r))
	want := said(s)
	s.Tables[0].Rows[0][1] = text("spoilt")
	if got := said(of(s.Tables[1])); !strings.Contains(want, got) {
		t.Error("two tables share a row")
	}
	if r[1] != text("x") {
		t.Error("a row that was handed in is the table's")
	}
	got, _ := table.Get(s, "u", num(1))
	got[1] = text("spoilt")
	if s.Tables[1].Rows[0][1] != text("x") {
		t.Error("a row that was answered is the table's")
	}
}

// R3: bytes and pairs that are answered are new each time.
func TestBytesAreNew(t *testing.T) {
	s := texts()
	b, _ := table.Encode(s)
	want := string(b)
	for i := range b[:cap(b)] {
		b[:cap(b)][i] = '?'
	}
	if again, _ := table.Encode(s); string(again) != want {
		t.Errorf("%q", again)
	}
	l := table.Pairs(s)
	told := pairsText(l)
	for i := range l[:cap(l)] {
		l[:cap(l)][i] = api.Cell{Key: "?"}
	}
	if again := table.Pairs(s); pairsText(again) != told {
		t.Errorf("%q", again)
	}
}

// R5: the same arguments have the same answers, whatever was asked between.
func TestSameAnswers(t *testing.T) {
	type pair struct {
		call asked
		want string
	}
	var all []pair
	c := chance(21)
	for range 60 {
		s := c.pool()
		x := c.table("more")
		for _, call := range calls(s, x, rows(row("z", "y"), row("a", "b")), row("a", 1)) {
			if call.name == "Decode" && !hasBytes(s) {
				continue
			}
			var m memory
			all = append(all, pair{call, call.call(&m)()})
		}
	}
	for _, p := range slices.Backward(all) {
		var m memory
		if got := p.call.call(&m)(); got != p.want {
			t.Errorf("%s: %s; not %s", p.call.name, got, p.want)
		}
	}
}
