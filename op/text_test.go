package op_test

import (
	"strings"
	"testing"

	"concordat/api"
	"concordat/op"
)

type textCase struct {
	text string
	o    api.Op
}

func rightTexts() []textCase {
	last := at(api.MaxTime, 3)
	return []textCase{
		{"m|1|0|1|4|0|a|", api.Op{S: at(1, 0), N: 1, Kind: api.Move, Node: 4, Name: "a"}},
		{"m|1|1|1|5|0|a.b-1|", api.Op{S: at(1, 1), N: 1, Kind: api.Move, Node: 5, Name: "a.b-1"}},
		{"m|3|2|7|4|1|t|", api.Op{S: at(3, 2), N: 7, Kind: api.Move, Node: 4, Other: 1, Name: "t"}},
		{"m|1073741824|3|400|4294967299|4294967298|0123456789.-|", api.Op{S: last, N: 400, Kind: api.Move, Node: lastID, Other: lastID - 1, Name: "0123456789.-"}},
		{"i|2|1|400|4|8||7c", api.Op{S: at(2, 1), N: 400, Kind: api.Insert, Node: 4, Other: 8, Value: "|"}},
		{"i|1|0|1|0|0||20", api.Op{S: at(1, 0), N: 1, Kind: api.Insert, Value: " "}},
		{"i|10|0|10|10|20||7e", api.Op{S: at(10, 0), N: 10, Kind: api.Insert, Node: 10, Other: 20, Value: "~"}},
		{"d|1073741824|3|1|4|8||", api.Op{S: last, N: 1, Kind: api.Delete, Node: 4, Other: 8}},
		{"d|1|0|1|0|1||", api.Op{S: at(1, 0), N: 1, Kind: api.Delete, Other: 1}},
		{"s|2|0|1|4|0|m|7620", api.Op{S: at(2, 0), N: 1, Kind: api.Set, Node: 4, Name: "m", Value: "v "}},
		{"s|2|0|1|4|0|m|", api.Op{S: at(2, 0), N: 1, Kind: api.Set, Node: 4, Name: "m"}},
		{"s|2|0|1|1|0|-|303141427c6a6b6c6d6e6f5f", api.Op{S: at(2, 0), N: 1, Kind: api.Set, Node: 1, Name: "-", Value: "01AB|jklmno_"}},
	}
}

func TestTexts(t *testing.T) {
	for _, c := range rightTexts() {
		if s, err := op.Text(c.o); s != c.text || err != nil {
			t.Errorf("%#v: %q, %v, not %q", c.o, s, err, c.text)
		}
		if o, err := op.Read(c.text); o != c.o || err != nil {
			t.Errorf("%q: %#v, %v, not %#v", c.text, o, err, c.o)
		}
	}
}

func TestTextsOfEachValue(t *testing.T) {
	const digits = "0123456789abcdef"
	for b := 32; b <= 126; b++ {
		o := with(rightInsert(), func(o *api.Op) { o.Value = string([]byte{byte(b)}) })
		text := "i|2|1|1|4|0||" + digits[b/16:b/16+1] + digits[b%16:b%16+1]
		if s, err := op.Text(o); s != text || err != nil {
			t.Errorf("%#v: %q, %v", o, s, err)
		}
		if back, err := op.Read(text); back != o || err != nil {
			t.Errorf("%q: %#v, %v", text, back, err)
		}
	}
}

// P31, P3: bare, and with a zero operation.
func holdRead(t *testing.T, s string, want error) {
	t.Helper()
	if o, err := op.Read(s); o != (api.Op{}) || err != want {
		t.Errorf("%.60q: %#v, %v, not %v", s, o, err, want)
	}
}

func TestTextsThatAreNone(t *testing.T) {
	for _, s := range []string{
		"", "m", "|", "||||||", "|||||||", "||||||||", "m|1|0|1|4|0|a", "m|1|0|1|4|0|a||", "m|1|0|1|4|0|a|b|", "|m|1|0|1|4|0|a|", "m|1|0|1|4|0||a|", "m||1|0|1|4|0|a|",
		"|1|0|1|4|0|a|", "||1|0|1|4|0|a|", "mm|1|0|1|4|0|a|", " m|1|0|1|4|0|a|", "m |1|0|1|4|0|a|", "\u00e4|1|0|1|4|0|a|",
		"m|1|0|1|4|0|a|\n", "m|1|0|1|4|0|a| ", "m,1,0,1,4,0,a,", "m 1 0 1 4 0 a ",
		"i|2|1|1|4|8||7", "i|2|1|1|4|8||7C", "i|2|1|1|4|8||7g", "i|2|1|1|4|8||g7", "i|2|1|1|4|8||7c7", "i|2|1|1|4|8||x", "i|2|1|1|4|8|| 7c", "i|2|1|1|4|8||7c ", "i|2|1|1|4|8||0x7c", "i|2|1|1|4|8||7/", "i|2|1|1|4|8||:7", "i|2|1|1|4|8||`7", "i|2|1|1|4|8||\x007", "i|2|1|1|4|8||\xff\xff", "i|2|1|1|4|8||7c|",
		"s|2|0|1|4|0|m|7620|", "s|2|0|1|4|0|m|v ",
		strings.Repeat("|", 100000), strings.Repeat("m", 100000), "m|" + strings.Repeat("1", 100000) + "|0|1|4|0|a|", "i|2|1|1|4|8||" + strings.Repeat("7", 100001),
	} {
		holdRead(t, s, api.ErrText)
	}
}

// Each of the five numbers, written in a wrong way.
func TestNumbersThatAreNone(t *testing.T) {
	right := strings.Split("m|1|0|1|4|0|a|", "|")
	for i := 1; i <= 5; i++ {
		for _, number := range []string{"", "-", "-1", "-0", "+1", "00", "01", "0000000001", " 1", "1 ", "1a", "a", "0x1", "1e1", "1_0", "1.", "\u0661", "/", ":", "12345678901", "00000000001", "99999999999999999999"} {
			l := append([]string(nil), right...)
			l[i] = number
			holdRead(t, strings.Join(l, "|"), api.ErrText)
		}
		for _, number := range []string{"9999999999", "4294967300"} {
			l := append([]string(nil), right...)
			l[i] = number
			want := api.ErrShape
			if i <= 3 {
				want = api.ErrBound
			}
			holdRead(t, strings.Join(l, "|"), want)
		}
	}
}

func TestTextsOfWrongOperations(t *testing.T) {
	for _, c := range []struct {
		text string
		err  error
	}{
		{"m|0|0|1|4|0|a|", api.ErrBound}, {"m|1073741825|0|1|4|0|a|", api.ErrBound}, {"m|1|4|1|4|0|a|", api.ErrBound}, {"m|1|0|0|4|0|a|", api.ErrBound}, {"m|1|0|401|4|0|a|", api.ErrBound},
		{"x|1|0|1|4|0|a|", api.ErrKind}, {"M|1|0|1|4|0|a|", api.ErrKind}, {"\x00|1|0|1|4|0|a|", api.ErrKind}, {"\xff|1|0|1|4|0|a|", api.ErrKind}, {"0|1|0|1|4|0|a|", api.ErrKind},
		{"m|1|0|1|5|0|a|", api.ErrShape}, {"m|1|0|1|0|0|a|", api.ErrShape}, {"m|1|0|1|1|0|a|", api.ErrShape}, {"m|1|0|1|4|4|a|", api.ErrShape},
		{"m|1|0|1|4|0||", api.ErrName}, {"m|1|0|1|4|0|A|", api.ErrName}, {"m|1|0|1|4|0|a b|", api.ErrName}, {"m|1|0|1|4|0|\xff|", api.ErrName}, {"m|1|0|1|4|0|abcdefghijklm|", api.ErrName},
		{"m|1|0|1|4|0|a|61", api.ErrShape}, {"i|2|1|1|9|8||7c", api.ErrShape}, {"i|2|1|1|4|9||7c", api.ErrShape}, {"i|2|1|1|4|8|a|7c", api.ErrName},
		{"i|2|1|1|4|8||", api.ErrShape}, {"i|2|1|1|4|8||7c7c", api.ErrShape}, {"i|2|1|1|4|8||7f", api.ErrShape}, {"i|2|1|1|4|8||1f", api.ErrShape}, {"i|2|1|1|4|8||00", api.ErrShape}, {"i|2|1|1|4|8||ff", api.ErrShape},
		{"d|2|1|1|4|0||", api.ErrShape}, {"d|2|1|1|4|8||78", api.ErrShape}, {"d|2|1|1|4|8|a|", api.ErrName},
		{"s|2|0|1|4|4|m|76", api.ErrShape}, {"s|2|0|1|4|0||76", api.ErrName}, {"s|2|0|1|4|0|m|0a", api.ErrShape}, {"s|2|0|1|4|0|m|76767676767676767676767676", api.ErrShape},
		{"m|1|0|1|4|0|" + strings.Repeat("a", 100000) + "|", api.ErrName}, {"s|2|0|1|4|0|m|" + strings.Repeat("76", 100000), api.ErrShape},
	} {
		holdRead(t, c.text, c.err)
	}
}

// P3: ErrText is named ahead of Check's errors.
func TestTextAheadOfCheck(t *testing.T) {
	for _, s := range []string{"m|0|0|1|4|0|a|7", "m|0|0|1|4|00|a|", "x|1|0|1|4|0|a", "x|1|0|1|4|0|a|7C", "m|1|0|1|9|0|A|zz", "m|1|4|1|4|0|a||", "xx|0|9|0|9|9|A|0a"} {
		holdRead(t, s, api.ErrText)
	}
}

// P33: what is read from a text has just that text.
func holdOneText(t *testing.T, s string) bool {
	t.Helper()
	o, err := op.Read(s)
	if err != nil {
		if o != (api.Op{}) {
			t.Errorf("%q: %#v, %v", s, o, err)
		}
		return false
	}
	if back, err := op.Text(o); back != s || err != nil {
		t.Errorf("%q was read as %#v, whose text is %q, %v", s, o, back, err)
	}
	return true
}

// Of each right text all that are one byte away: one that is changed, one more, one less.
func TestTextsNearby(t *testing.T) {
	read := 0
	hold := func(s string) {
		if holdOneText(t, s) {
			read++
		}
	}
	for _, c := range rightTexts() {
		for i := range len(c.text) + 1 {
			for b := range 256 {
				hold(c.text[:i] + string([]byte{byte(b)}) + c.text[i:])
				if i < len(c.text) {
					hold(c.text[:i] + string([]byte{byte(b)}) + c.text[i+1:])
				}
			}
			if i < len(c.text) {
				hold(c.text[:i] + c.text[i+1:])
			}
		}
	}
	if read < 1000 {
		t.Errorf("only %d of them were read", read)
	}
}

// P33: over many operations, those that are right have a text, from which they are read again; no two have the same one.
func TestOneTextEach(t *testing.T) {
	known := map[string]api.Op{}
	eachOp(func(o api.Op) {
		s, err := op.Text(o)
		if err != op.Check(o) || (s == "") != (err != nil) {
			t.Fatalf("%#v: %q, %v", o, s, err)
		}
		if err != nil {
			return
		}
		if other, ok := known[s]; ok {
			t.Errorf("%q is the text of %#v and of %#v", s, o, other)
		}
		known[s] = o
		if back, err := op.Read(s); back != o || err != nil {
			t.Errorf("%#v: %q is read as %#v, %v", o, s, back, err)
		}
	})
	if len(known) < 1000 {
		t.Errorf("only %d of them were right", len(known))
	}
}

func eachOp(visit func(api.Op)) {
	stamps := []api.Stamp{at(0, 1), at(1, 0), at(1, 3), at(11, 1), at(api.MaxTime, 3)}
	for _, s := range stamps {
		for _, n := range []int{0, 1, 11, api.MaxOps} {
			for _, kind := range []byte("mids|") {
				for _, node := range []int{-1, 0, 1, 4, 11, lastID} {
					for _, other := range []int{-1, 0, 1, 11} {
						for _, name := range []string{"", "a", "1", "a|", "-.z"} {
							for _, value := range []string{"", "|", "1", "11", "61", "\n"} {
								visit(api.Op{S: s, N: n, Kind: kind, Node: node, Other: other, Name: name, Value: value})
							}
						}
					}
				}
			}
		}
	}
}

func FuzzRead(f *testing.F) {
	for _, c := range rightTexts() {
		f.Add(c.text)
	}
	for _, s := range []string{"", "m|01|0|1|4|0|a|", "i|2|1|1|4|8||7C", "|||||||"} {
		f.Add(s)
	}
	f.Fuzz(func(t *testing.T, s string) { holdOneText(t, s) })
}
