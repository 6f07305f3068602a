package value_test

import (
	"math"
	"strconv"
	"strings"
	"testing"

	"proctor/api"
	"proctor/value"
)

// P1.6: texts of all kinds; the empty one of what may not be.
func TestText(t *testing.T) {
	for _, c := range []struct {
		v    api.Value
		want string
	}{
		{none, "null"}, {truth(true), "true"}, {truth(false), "false"},
		{num(0), "0"}, {num(-5), "-5"}, {num(math.MinInt64), "-9223372036854775808"}, {num(math.MaxInt64), "9223372036854775807"},
		{handle(1), "#1"}, {handle(math.MaxInt64), "#9223372036854775807"},
		{text(""), `""`}, {text("a b"), `"a b"`}, {text("a\"\\\n\t"), `"a\"\\\n\t"`}, {text(`\n`), `"\\n"`},
		{text("\r\x00\x1f\x7f'"), "\"\r\x00\x1f\x7f'\""}, {text("\u00f1\u2028"), "\"\u00f1\u2028\""}, {text("\xff\xc3"), "\"\xff\xc3\""},
		{list(), "[]"}, {list(none), "[null]"}, {list(num(1), text("a, b"), list(list(), handle(2)), truth(true)), `[1, "a, b", [[], #2], true]`},
		{nested(api.MaxDeep), strings.Repeat("[", api.MaxDeep) + strings.Repeat("]", api.MaxDeep)},
		{nulls(api.MaxList), "[" + strings.Repeat("null, ", api.MaxList-1) + "null]"},
		{xs(api.MaxString), `"` + strings.Repeat("x", api.MaxString) + `"`},
	} {
		if got := value.Text(c.v); got != c.want {
			t.Errorf("%.80s, not %.80s", got, c.want)
		}
	}
	for _, n := range edges() {
		if got := value.Text(num(n)); got != strconv.FormatInt(n, 10) {
			t.Errorf("%d: %s", n, got)
		}
	}
	for name, v := range barred() {
		if got := value.Text(v); got != "" {
			t.Errorf("%s: %s", name, got)
		}
	}
}
