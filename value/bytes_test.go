package value_test

import (
	"math"
	"strings"
	"testing"

	"proctor/api"
	"proctor/value"
)

// P1.5: the bytes as the document lays them out.
func TestEncode(t *testing.T) {
	for i, c := range []struct {
		v    api.Value
		want string
	}{
		{none, "\x00"},
		{truth(false), "\x01\x00"},
		{truth(true), "\x01\x01"},
		{num(0), "\x02\x00\x00\x00\x00\x00\x00\x00\x00"},
		{num(0x0102030405060708), "\x02\x01\x02\x03\x04\x05\x06\x07\x08"},
		{num(-2), "\x02\xff\xff\xff\xff\xff\xff\xff\xfe"},
		{num(math.MinInt64), "\x02\x80\x00\x00\x00\x00\x00\x00\x00"},
		{num(math.MaxInt64), "\x02\x7f\xff\xff\xff\xff\xff\xff\xff"},
		{text(""), "\x03\x00\x00\x00\x00"},
		{text("ab\x00"), "\x03\x00\x00\x00\x03ab\x00"},
		{xs(0x1234), "\x03\x00\x00\x12\x34" + strings.Repeat("x", 0x1234)},
		{xs(api.MaxString), "\x03\x00\x01\x00\x00" + strings.Repeat("x", api.MaxString)},
		{list(), "\x04\x00\x00\x00\x00"},
		{list(none, list(truth(true)), text("c")), "\x04\x00\x00\x00\x03\x00\x04\x00\x00\x00\x01\x01\x01\x03\x00\x00\x00\x01c"},
		{nulls(api.MaxList), "\x04\x00\x00\x10\x00" + strings.Repeat("\x00", api.MaxList)},
		{handle(1), "\x05\x00\x00\x00\x00\x00\x00\x00\x01"},
		{handle(math.MaxInt64), "\x05\x7f\xff\xff\xff\xff\xff\xff\xff"},
	} {
		if b, err := value.Encode(c.v); err != api.OK || string(b) != c.want {
			t.Errorf("%d: %q, %d", i, b, err)
		}
		if v, err := value.Decode([]byte(c.want)); err != api.OK || !value.Same(v, c.v) {
			t.Errorf("%d: %s, %d", i, value.Text(v), err)
		}
	}
	for name, v := range barred() {
		if b, err := value.Encode(v); err != api.ErrArg || b != nil {
			t.Errorf("%s: %q, %d", name, b, err)
		}
	}
}

// P1.5, P1.7: Decode of Encode is the value, unlike values have unlike encodings, and no more and no fewer bytes are one.
func TestDecodeOfEncode(t *testing.T) {
	seen := map[string]int{}
	for i, v := range rising() {
		b, err := value.Encode(v)
		if w, bad := value.Decode(b); err != api.OK || bad != api.OK || !value.Same(v, w) {
			t.Errorf("%d: %d, %d", i, err, bad)
		}
		if k, there := seen[string(b)]; there {
			t.Errorf("%d is encoded as %d is", i, k)
		}
		seen[string(b)] = i
		refuse(t, append(b, 0))
		refuse(t, append(b, b...))
		for n := len(b) - 1; n >= 0; n = n*7/8 - 1 {
			refuse(t, b[:n:n])
			refuse(t, b[:n])
		}
	}
}

func refuse(t *testing.T, b []byte) {
	t.Helper()
	if v, err := value.Decode(b); err != api.ErrForm || !value.Same(v, none) {
		t.Errorf("%.40q: %s, %d", b, value.Text(v), err)
	}
}

// P1.5: ErrForm of bytes that encode nothing that may be.
func TestDecodeRefuses(t *testing.T) {
	refuse(t, nil)
	head := "\x04\x00\x00\x00\x01"
	if v, err := value.Decode([]byte(strings.Repeat(head, api.MaxDeep-1) + "\x04\x00\x00\x00\x00")); err != api.OK || !value.Same(v, nested(api.MaxDeep)) {
		t.Errorf("%s, %d", value.Text(v), err)
	}
	for _, s := range []string{
		"\x06", "\xff", "\x06\x00\x00\x00\x00\x00\x00\x00\x01", "\x01", "\x01\x02", "\x01\xff",
		"\x02\x00\x00\x00\x00\x00\x00\x00", "\x05\x00\x00\x00\x00\x00\x00\x00\x00", "\x05\x80\x00\x00\x00\x00\x00\x00\x00", "\x05\xff\xff\xff\xff\xff\xff\xff\xff",
		"\x03", "\x03\x00\x00\x00", "\x03\x00\x00\x00\x02a", "\x03\xff\xff\xff\xffa", "\x03\x80\x00\x00\x00",
		"\x03\x00\x01\x00\x01" + strings.Repeat("x", api.MaxString+1),
		"\x04\x00\x00\x00\x01", "\x04\x00\x00\x00\x02\x00", "\x04\x7f\xff\xff\xff", "\x04\xff\xff\xff\xff\x00",
		"\x04\x00\x00\x10\x01" + strings.Repeat("\x00", api.MaxList+1),
		"\x04\x00\x00\x00\x02\x01\x02\x00", "\x04\x00\x00\x00\x01\x05\x00\x00\x00\x00\x00\x00\x00\x00", "\x04\x00\x00\x00\x01\x09",
		strings.Repeat(head, api.MaxDeep) + "\x04\x00\x00\x00\x00", strings.Repeat(head, 1<<16) + "\x00", strings.Repeat("\x04\x00\x00\x10\x00", 1<<16),
	} {
		refuse(t, []byte(s))
	}
}

// P1.5, P1.7: whatever few bytes decode to, they are its encoding; all others are refused.
func TestDecodeShort(t *testing.T) {
	taken := 0
	for n := range 4 {
		b := make([]byte, n)
		for c := range 1 << (8 * n) {
			for i := range b {
				b[i] = byte(c >> (8 * i))
			}
			v, err := value.Decode(b)
			if err == api.OK {
				taken++
				if again, bad := value.Encode(v); bad != api.OK || string(again) != string(b) {
					t.Fatalf("%q: %q, %d", b, again, bad)
				}
			}
		}
	}
	if taken != 3 {
		t.Errorf("%d, not null, false and true alone", taken)
	}
}
