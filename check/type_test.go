package check_test

import (
	"fmt"
	"slices"
	"strings"
	"testing"

	"tallyhouse/api"
)

// ofType are expressions by the type that they have, against setup's tables t and v; one of each is a value alone.
func ofType() map[int][]string {
	return map[int][]string{
		1: {"NULL"},
		2: {"TRUE", "FALSE", "c", "v.k", "(NOT c)", "(NOT NULL)", "(c AND NULL)", "(NULL OR NULL)", "(a = d)", "(NULL < 'x')", "(NULL = NULL)", "(b IS NULL)", "(NULL IS NOT NULL)", "(c IS NULL)"},
		3: {"1", "0", "a", "t.d", "(- a)", "(- NULL)", "(a + 1)", "(NULL - NULL)", "(a * NULL)", "(NULL / 2)", "(1 % d)"},
		4: {"'x'", "''", "b", "t.b"},
	}
}

// typeLetters are types as this test's tables write them.
const typeLetters = "?NBIT"

// P13.2: an expression's type, whatever it is made of.
func TestTypes(t *testing.T) {
	for want, list := range ofType() {
		for _, text := range list {
			plans(t, "SELECT "+text+" FROM t INNER JOIN v ON TRUE", false, want)
			fits := func(other int) api.Errno {
				if want == other || want == 1 {
					return api.OK
				}
				return api.ErrTypes
			}
			tells(t, fits(2), "SELECT a FROM t INNER JOIN v ON "+text)
			tells(t, fits(2), "SELECT a FROM t INNER JOIN v ON TRUE WHERE "+text)
			tells(t, fits(3), "SELECT SUM("+text+") FROM t INNER JOIN v ON TRUE")
			if strings.Contains(text, "v.k") {
				continue
			}
			tells(t, fits(4), "UPDATE t SET b = "+text)
			tells(t, fits(2), "UPDATE t SET c = "+text)
			tells(t, fits(3), "UPDATE t SET d = "+text)
			tells(t, fits(2), "UPDATE t SET b = b WHERE "+text)
			tells(t, fits(2), "DELETE FROM t WHERE "+text)
		}
	}
	for want, list := range ofType() {
		for _, text := range list {
			if strings.ContainsAny(strings.ReplaceAll(text, "'x'", ""), "abcdk") {
				continue
			}
			for at, column := range []int{3, 4, 2, 3} {
				values := []string{"1", "'x'", "TRUE", "1"}
				values[at] = text
				err := api.OK
				if want != column && want != 1 {
					err = api.ErrTypes
				}
				tells(t, err, "INSERT INTO t VALUES ("+strings.Join(values, ", ")+")")
			}
		}
	}
}

// P13.2: which types go together, of each op and each pair of types.
func TestTypesThatGoTogether(t *testing.T) {
	rows := map[string]string{
		"AND": "NN NB BN BB", "OR": "NN NB BN BB",
		"=": "NN NB NI NT BN BB IN II TN TT", "<>": "NN NB NI NT BN BB IN II TN TT",
		"<": "NN NI NT IN II TN TT", "<=": "NN NI NT IN II TN TT", ">": "NN NI NT IN II TN TT", ">=": "NN NI NT IN II TN TT",
		"+": "NN NI IN II", "-": "NN NI IN II", "*": "NN NI IN II", "/": "NN NI IN II", "%": "NN NI IN II",
	}
	all := ofType()
	for op, row := range rows {
		right := 0
		for a := 1; a <= 4; a++ {
			for b := 1; b <= 4; b++ {
				want := api.ErrTypes
				if slices.Contains(strings.Fields(row), string([]byte{typeLetters[a], typeLetters[b]})) {
					want = api.OK
					right++
				}
				for _, one := range all[a] {
					for _, two := range all[b] {
						tells(t, want, fmt.Sprintf("SELECT %s %s %s FROM t INNER JOIN v ON TRUE", one, op, two))
					}
				}
			}
		}
		if right != len(strings.Fields(row)) {
			t.Error(op, right)
		}
	}
}

// P13.2: which types go with what is of one alone.
func TestTypesOfOne(t *testing.T) {
	for form, row := range map[string]string{"NOT %s": "NB", "- %s": "NI", "%s IS NULL": "NBIT", "%s IS NOT NULL": "NBIT"} {
		for kind, list := range ofType() {
			want := api.ErrTypes
			if strings.Contains(row, typeLetters[kind:kind+1]) {
				want = api.OK
			}
			for _, text := range list {
				tells(t, want, "SELECT "+fmt.Sprintf(form, text)+" FROM t INNER JOIN v ON TRUE")
			}
		}
	}
}

// P13.2: bools are tested by = and <> alone, also against null, whichever of both is the bool.
func TestBoolsAreNotLess(t *testing.T) {
	for _, op := range []string{"=", "<>", "<", "<=", ">", ">="} {
		want := api.ErrTypes
		if op == "=" || op == "<>" {
			want = api.OK
		}
		for _, pair := range [][2]string{{"TRUE", "NULL"}, {"NULL", "TRUE"}, {"c", "NULL"}, {"NULL", "c"}, {"c", "FALSE"}, {"NULL IS NULL", "NULL"}} {
			tells(t, want, "DELETE FROM t WHERE ("+pair[0]+") "+op+" ("+pair[1]+")")
		}
		tells(t, api.OK, "DELETE FROM t WHERE NULL "+op+" NULL")
	}
}
