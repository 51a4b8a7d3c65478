package check_test

import (
	"fmt"
	"math"
	"strings"
	"testing"

	"tallyhouse/api"
	"tallyhouse/check"
)

// may fails the test, unless May tells this; Check answers ErrStmt of what may not be, and of nothing else.
func may(t *testing.T, why string, s api.Stmt, want bool) {
	t.Helper()
	if got := check.May(s); got != want {
		t.Errorf("%s: %t", why, got)
	}
	if got := modelMay(s); got != want {
		t.Errorf("%s: the model says %t", why, got)
	}
	p, err := check.Check(made(t, setup), s)
	if (err == api.ErrStmt) == want || err != api.OK && !same(p, api.Plan{}) {
		t.Errorf("%s: %d %s", why, err, said(p))
	}
}

// plain is the least statement of a Kind.
func plain(kind int) api.Stmt {
	s := api.Stmt{Kind: kind, Table: "t", Limit: -1}
	switch kind {
	case 1:
		s.Columns = []api.Defined{{Name: "a", Type: 3, Key: true}}
	case 3, 4:
		s.Sets = []api.Set{{Name: "d", Expr: single()}}
	case 6:
		s.Items = []api.Item{{Kind: 1, Expr: single()}}
	}
	return s
}

// P13.1: a statement's Kind is one.
func TestKinds(t *testing.T) {
	for kind := 1; kind <= 6; kind++ {
		may(t, fmt.Sprint("Kind ", kind), plain(kind), true)
		for _, other := range []int{0, -1, 7, 8, 77, kind - 6, kind + 6, kind + 256, kind - 1<<32, math.MinInt, math.MaxInt} {
			s := plain(kind)
			s.Kind = other
			may(t, fmt.Sprint("Kind ", other), s, other >= 1 && other <= 6 && modelMay(s))
		}
	}
	may(t, "nothing", api.Stmt{}, false)
}

// P13.1: how many Columns, Sets and Items there are.
func TestCounts(t *testing.T) {
	for many, want := range map[int]bool{0: false, 1: true, 2: true, 6: true, 7: true, 299: true, 300: true, 301: false, 1000: false} {
		s := plain(1)
		s.Columns = make([]api.Defined, many)
		may(t, fmt.Sprint(many, " Columns"), s, want)
		for _, kind := range []int{3, 4} {
			s = plain(kind)
			s.Sets = nil
			for range many {
				s.Sets = append(s.Sets, api.Set{Expr: single()})
			}
			may(t, fmt.Sprint(many, " Sets of ", kind), s, want)
		}
		for item := 1; item <= 3; item++ {
			s = plain(6)
			s.Items = nil
			for range many {
				s.Items = append(s.Items, api.Item{Kind: item, Expr: single()})
			}
			may(t, fmt.Sprint(many, " Items"), s, want)
			s.Star = true
			may(t, fmt.Sprint(many, " Items beside Star"), s, true)
			if many == 0 {
				s.Items = []api.Item{}
				may(t, "Items that are empty, beside Star", s, true)
			}
		}
	}
}

// exprs are expressions that may be, and that may not be, by why.
func exprs() (good, bad map[string]api.Expr) {
	good, bad = map[string]api.Expr{}, map[string]api.Expr{}
	value := api.Node{Kind: 1, Value: api.Value{Kind: 3}}
	// put puts a node behind so many others.
	put := func(to map[string]api.Expr, why string, many int, n api.Node) {
		var e api.Expr
		for range many {
			e.Nodes = append(e.Nodes, value)
		}
		e.Nodes = append(e.Nodes, n)
		to[why+fmt.Sprint(", behind ", many)] = e
	}
	for _, kind := range []int{0, -1, 11, 12, 77, 257, math.MinInt, math.MaxInt} {
		put(bad, fmt.Sprint("Kind ", kind), 0, api.Node{Kind: kind, Op: 1, Value: api.Value{Kind: 1}})
		put(bad, fmt.Sprint("Kind ", kind), 3, api.Node{Kind: kind, Op: 1, A: 0, B: 1})
	}
	for _, kind := range []int{3, 4, 9, 10, 5, 6, 7, 8} {
		two := of[kind] == 2
		for _, at := range []int{-1, 0, 1, 2, 3, 4, 5, math.MinInt, math.MaxInt} {
			way := good
			if at < 0 || at >= 3 {
				way = bad
			}
			put(way, fmt.Sprint("A of ", kind, " at ", at), 3, api.Node{Kind: kind, Op: 1, A: at, B: 1})
			if !two {
				way = good
			}
			put(way, fmt.Sprint("B of ", kind, " at ", at), 3, api.Node{Kind: kind, Op: 1, A: 1, B: at})
		}
		put(bad, fmt.Sprint("the first one, of ", kind), 0, api.Node{Kind: kind, Op: 1})
	}
	for op := -3; op <= 9; op++ {
		for _, kind := range []int{7, 8} {
			way := good
			if op < 1 || op > 6 || op == 6 && kind == 8 {
				way = bad
			}
			put(way, fmt.Sprint("Op ", op, " of ", kind), 2, api.Node{Kind: kind, Op: op, A: 0, B: 1})
		}
	}
	for why, x := range values() {
		way := good
		if strings.HasPrefix(why, "no ") {
			way = bad
		}
		put(way, why, 0, api.Node{Kind: 1, Value: x})
		put(way, why, 5, api.Node{Kind: 1, Value: x})
	}
	for why, n := range loose() {
		put(good, why, 2, n)
	}
	for _, many := range []int{0, 298, 299, 300, 999} {
		way := good
		if many > 299 {
			way = bad
		}
		put(way, "very many", many, value)
	}
	bad["no nodes"] = api.Expr{Nodes: []api.Node{}}
	for why, e := range bad {
		if len(e.Nodes) > 0 {
			bad[why+", and one behind"] = api.Expr{Nodes: append(append([]api.Node{}, e.Nodes...), value)}
		}
	}
	return good, bad
}

// values are values that may be, and, behind the word no, that may not be.
func values() map[string]api.Value {
	long := strings.Repeat("x", 64)
	return map[string]api.Value{
		"null": {Kind: 1}, "false": {Kind: 2}, "true": {Kind: 2, Num: 1}, "no text": {Kind: 4, Text: long + "x"},
		"a number": {Kind: 3, Num: math.MinInt64}, "an empty text": {Kind: 4}, "a long text": {Kind: 4, Text: long},
		"no Kind": {}, "no Kind 5": {Kind: 5}, "no Kind -1": {Kind: -1}, "no null with a Num": {Kind: 1, Num: 1}, "no null with a Text": {Kind: 1, Text: "x"},
		"no bool of 2": {Kind: 2, Num: 2}, "no bool of -1": {Kind: 2, Num: -1}, "no bool with a Text": {Kind: 2, Text: "x"},
		"no number with a Text": {Kind: 3, Text: "x"}, "no text with a Num": {Kind: 4, Num: 1, Text: "x"},
	}
}

// loose are nodes in which stands what does not count for their Kinds; two nodes are to be ahead of them.
func loose() map[string]api.Node {
	odd := api.Value{Kind: 77, Num: 7, Text: strings.Repeat("?", 99)}
	return map[string]api.Node{
		"a loose value":    {Kind: 1, Op: 77, A: -7, B: 777, Table: "?", Name: "?", Value: api.Value{Kind: 4, Text: "x"}},
		"a loose column":   {Kind: 2, Op: -1, A: 99, B: -99, Table: "t", Name: "a", Value: odd},
		"a column of none": {Kind: 2, Op: math.MaxInt, A: math.MinInt, B: 2, Value: odd},
		"a loose NOT":      {Kind: 3, Op: 77, A: 1, B: 77, Table: "?", Name: "?", Value: odd},
		"a loose minus":    {Kind: 4, Op: -7, A: 1, B: -1, Table: "?", Name: "?", Value: odd},
		"a loose AND":      {Kind: 5, Op: 77, A: 1, B: 0, Table: "?", Name: "?", Value: odd},
		"a loose OR":       {Kind: 6, Op: -1, A: 0, B: 1, Table: "?", Name: "?", Value: odd},
		"a loose test":     {Kind: 7, Op: 6, A: 1, B: 1, Table: "?", Name: "?", Value: odd},
		"a loose sum":      {Kind: 8, Op: 5, A: 0, B: 0, Table: "?", Name: "?", Value: odd},
		"a loose IS NULL":  {Kind: 9, Op: 77, A: 0, B: 2, Table: "?", Name: "?", Value: odd},
		"a loose NOT NULL": {Kind: 10, Op: 77, A: 1, B: 3, Table: "?", Name: "?", Value: odd},
	}
}

// holders are statements in which an expression stands at each place where one may.
func holders() map[string]func(e api.Expr) api.Stmt {
	out := map[string]func(e api.Expr) api.Stmt{}
	for _, kind := range []int{3, 4} {
		for at := range 3 {
			out[fmt.Sprint("Sets of ", kind, " at ", at)] = func(e api.Expr) api.Stmt {
				s := plain(kind)
				s.Sets = []api.Set{{Expr: single()}, {Expr: single()}, {Expr: single()}}
				s.Sets[at].Expr = e
				return s
			}
		}
	}
	for _, item := range []int{1, 3} {
		for at := range 3 {
			out[fmt.Sprint("Items of ", item, " at ", at)] = func(e api.Expr) api.Stmt {
				s := plain(6)
				s.Items = []api.Item{{Kind: 3, Expr: single()}, {Kind: 2}, {Kind: 1, Expr: single()}}
				s.Items[at] = api.Item{Kind: item, Expr: e}
				return s
			}
		}
	}
	for kind := 4; kind <= 6; kind++ {
		out[fmt.Sprint("Where of ", kind)] = func(e api.Expr) api.Stmt {
			s := plain(kind)
			s.Where = e
			return s
		}
	}
	for kind := 1; kind <= 6; kind++ {
		for _, join := range []string{"u", "t", "none"} {
			out[fmt.Sprint("On of ", kind, " beside ", join)] = func(e api.Expr) api.Stmt {
				s := plain(kind)
				s.Join, s.On = join, e
				return s
			}
		}
	}
	out["On beside Star"] = func(e api.Expr) api.Stmt {
		return api.Stmt{Kind: 6, Table: "t", Join: "u", On: e, Star: true}
	}
	return out
}

// P13.1: expressions that may be and that may not be, wherever one stands.
func TestExprs(t *testing.T) {
	good, bad := exprs()
	if len(good) < 50 || len(bad) < 100 {
		t.Fatal(len(good), len(bad))
	}
	for where, hold := range holders() {
		for why, e := range good {
			may(t, where+": "+why, hold(e), true)
		}
		for why, e := range bad {
			none := len(e.Nodes) == 0 && strings.HasPrefix(where, "Where")
			may(t, where+": "+why, hold(e), none)
		}
	}
}

// P13.1: an item's Kind is one; of a COUNT there is no expression that is asked.
func TestItems(t *testing.T) {
	_, bad := exprs()
	for kind := -2; kind <= 6; kind++ {
		for at := range 2 {
			s := plain(6)
			s.Items = append(s.Items, api.Item{Kind: 2})
			s.Items[at] = api.Item{Kind: kind, Expr: single()}
			may(t, fmt.Sprint("an item's Kind ", kind), s, kind >= 1 && kind <= 3)
			s.Items[at].Expr = api.Expr{}
			may(t, fmt.Sprint("an item's Kind ", kind, " without an expression"), s, kind == 2)
			s.Star = true
			may(t, fmt.Sprint("an item's Kind ", kind, " beside Star"), s, true)
		}
	}
	for why, e := range bad {
		s := plain(6)
		s.Items = append(s.Items, api.Item{Kind: 2, Expr: e})
		may(t, "COUNT with "+why, s, true)
		s.Items[0] = api.Item{Kind: 3, Expr: e}
		may(t, "SUM with "+why, s, false)
		s.Star = true
		may(t, "SUM beside Star with "+why, s, true)
	}
}

// P13.1: Limit is at least -1, of whichever Kind.
func TestLimit(t *testing.T) {
	limits := map[int]bool{-1: true, 0: true, 1: true, 7: true, 1 << 40: true, math.MaxInt: true, -2: false, -3: false, -7: false, -1 << 40: false, math.MinInt: false}
	for kind := 1; kind <= 6; kind++ {
		for limit, want := range limits {
			s := plain(kind)
			s.Limit = limit
			may(t, fmt.Sprint("Limit ", limit, " of ", kind), s, want)
			may(t, fmt.Sprint("Limit ", limit, " of ", kind, ", beside what does not count"), odd(s, single()), want)
			s.Join, s.On = "u", single()
			may(t, fmt.Sprint("Limit ", limit, " of ", kind, ", beside Join"), s, want)
			s.Star = true
			may(t, fmt.Sprint("Limit ", limit, " of ", kind, ", beside Star"), s, want)
		}
	}
}

// P13.1: On is asked with a Join alone, of whichever Kind.
func TestOn(t *testing.T) {
	good, bad := exprs()
	for kind := 1; kind <= 6; kind++ {
		for why, e := range good {
			s := plain(kind)
			s.On = e
			may(t, fmt.Sprint("without Join, of ", kind, ": ", why), s, true)
			s.Join = "u"
			may(t, fmt.Sprint("with Join, of ", kind, ": ", why), s, true)
		}
		for why, e := range bad {
			s := plain(kind)
			s.On = e
			may(t, fmt.Sprint("without Join, of ", kind, ": ", why), s, true)
			s.Join = "u"
			may(t, fmt.Sprint("with Join, of ", kind, ": ", why), s, false)
		}
	}
}

// odd puts into a statement what does not count for its Kind; without a Join, beside which On is asked of each one.
func odd(s api.Stmt, e api.Expr) api.Stmt {
	if s.Kind != 1 {
		s.Columns = append(make([]api.Defined, 400), api.Defined{Name: "a", Type: -1, Key: true, NotNull: true})
	}
	if s.Kind != 3 && s.Kind != 4 {
		s.Sets = []api.Set{{Name: "?", Expr: e}}
	}
	if s.Kind != 6 || s.Star {
		s.Items = []api.Item{{Kind: 77, Expr: e}, {Kind: 1, Expr: e}, {Kind: 3, Expr: e}, {Kind: 2, Expr: e}}
	}
	if s.Kind < 4 {
		s.Where = e
	}
	if s.Kind != 6 {
		s.Star, s.Desc = true, true
		s.Group, s.Order = api.Ref{Table: "?", Name: "a"}, api.Ref{Name: "zz"}
	}
	s.On = e
	return s
}

// P13.1, P13.2: what does not count for the Kind is not asked, whatever it holds, and stays as it is.
func TestWhatDoesNotCount(t *testing.T) {
	good, bad := exprs()
	for kind := 1; kind <= 6; kind++ {
		for why, e := range bad {
			may(t, fmt.Sprint("odd, of ", kind, ": ", why), odd(plain(kind), e), true)
		}
	}
	for _, e := range []api.Expr{{}, good["a column of none, behind 2"], bad["Kind 0, behind 3"], expr(t, "zz = a OR 1")} {
		for _, sql := range []string{
			"CREATE TABLE w (a INT PRIMARY KEY, b TEXT)", "DROP TABLE t", "INSERT INTO v VALUES (TRUE)", "INSERT INTO u VALUES ('x', -1, NULL, '')",
			"UPDATE t SET d = a, b = 'x' WHERE c", "DELETE FROM t WHERE a = d", "DELETE FROM u", "SELECT a, b FROM t WHERE c ORDER BY d", "SELECT * FROM t", "SELECT * FROM t ORDER BY a",
		} {
			s := odd(parsed(t, sql), e)
			countsNot(t, sql, s)
			if s.Kind != 6 {
				s.Join, s.On = "none", expr(t, "zz = a OR 1")
				countsNot(t, sql, s)
			}
		}
	}
}

// countsNot fails the test, unless a statement in which stands what does not count has the plan of its text but for that.
func countsNot(t *testing.T, sql string, s api.Stmt) {
	t.Helper()
	store := made(t, setup)
	if err := answers(t, sql, store, s); err != api.OK {
		t.Errorf("%s: %d", sql, err)
	}
	want, _ := check.Check(store, parsed(t, sql))
	got, _ := check.Check(store, s)
	if got.Many != want.Many || got.Order != want.Order || got.Group != want.Group || fmt.Sprint(got.Types) != fmt.Sprint(want.Types) {
		t.Errorf("%s: %s; not %s", sql, said(got), said(want))
	}
	for _, wrong := range []string{"", "wrong"} {
		s.Table = wrong
		if err := answers(t, sql, store, s); (err == api.ErrNone) != (s.Kind != 1) {
			t.Errorf("%s: %d", sql, err)
		}
	}
}
