package value_test

import (
	"fmt"
	"math"
	"math/big"
	"slices"
	"strings"
	"testing"

	"tillage/api"
	"tillage/value"
)

const most = api.MaxNumber

var (
	number = value.Number
	text   = value.Text
)

// zero: what is answered beside an end that is not Done.
var zero = api.Value{}

func long(n int) string { return strings.Repeat("x", n) }

// P1.1

func TestNumberAndText(t *testing.T) {
	for _, n := range []int{0, 1, -1, most, -most, math.MaxInt, math.MinInt} {
		if got := value.Number(n); got != (api.Value{N: n}) {
			t.Errorf("Number(%d): %v", n, got)
		}
	}
	for _, s := range []string{"", "a", "0", "12", "\n", long(api.MaxText + 1)} {
		if got := value.Text(s); got != (api.Value{Text: true, S: s}) {
			t.Errorf("Text(%q): %v", s, got)
		}
	}
}

func TestCheck(t *testing.T) {
	for _, c := range []struct {
		v    api.Value
		want api.Errno
	}{
		{api.Value{}, api.OK},
		{number(-7), api.OK},
		{number(most), api.OK},
		{number(-most), api.OK},
		{text(""), api.OK},
		{text("a\nb\x00\xff"), api.OK},
		{text(long(api.MaxText)), api.OK},

		{api.Value{Text: true, N: 1}, api.ErrForm},
		{api.Value{Text: true, N: -1, S: "a"}, api.ErrForm},
		{api.Value{S: "a"}, api.ErrForm},
		{api.Value{N: 3, S: "3"}, api.ErrForm},

		{number(most + 1), api.ErrRange},
		{number(-most - 1), api.ErrRange},
		{number(math.MaxInt), api.ErrRange},
		{number(math.MinInt), api.ErrRange},

		{text(long(api.MaxText + 1)), api.ErrSize},
		{text(strings.Repeat("é", api.MaxText/2+1)), api.ErrSize},

		// Several apply: the one named first is told.
		{api.Value{N: most + 1, S: "a"}, api.ErrForm},
		{api.Value{S: long(api.MaxText + 1)}, api.ErrForm},
		{api.Value{Text: true, N: most + 1, S: long(api.MaxText + 1)}, api.ErrForm},
	} {
		if got := value.Check(c.v); got != c.want {
			t.Errorf("Check(%v): %v, want %v", c.v, got, c.want)
		}
	}
}

// P1.2

func TestStr(t *testing.T) {
	for _, c := range []struct {
		v    api.Value
		want string
	}{
		{number(0), "0"},
		{number(7), "7"},
		{number(-3), "-3"},
		{number(100), "100"},
		{number(most), "1099511627776"},
		{number(-most), "-1099511627776"},
		{text(""), ""},
		{text("007"), "007"},
		{text(" -1 "), " -1 "},
		{text(long(api.MaxText)), long(api.MaxText)},
	} {
		if got := value.Str(c.v); got != c.want {
			t.Errorf("Str(%v): %q, want %q", c.v, got, c.want)
		}
	}
}

func TestNum(t *testing.T) {
	for _, c := range []struct {
		v    api.Value
		want int
		err  api.Errno
	}{
		{number(0), 0, api.OK},
		{number(-5), -5, api.OK},
		{number(most), most, api.OK},
		{number(-most), -most, api.OK},

		{text("12"), 12, api.OK},
		{text("-12"), -12, api.OK},
		{text("   12"), 12, api.OK},
		{text(" -12x"), -12, api.OK},
		{text("3a4"), 3, api.OK},
		{text("3 4"), 3, api.OK},
		{text("3-4"), 3, api.OK},
		{text("1.5"), 1, api.OK},
		{text("007"), 7, api.OK},
		{text("-0"), 0, api.OK},
		{text("0x10"), 0, api.OK},

		{text(""), 0, api.OK},
		{text("   "), 0, api.OK},
		{text("-"), 0, api.OK},
		{text("--5"), 0, api.OK},
		{text("- 5"), 0, api.OK},
		{text("+5"), 0, api.OK},
		{text("a5"), 0, api.OK},
		{text("\t5"), 0, api.OK},
		{text(" \n5"), 0, api.OK},
		{text("/5"), 0, api.OK},
		{text(":5"), 0, api.OK},
		{text("\u0663"), 0, api.OK},

		{text("1099511627776"), most, api.OK},
		{text("-1099511627776"), -most, api.OK},
		{text("1099511627776x9"), most, api.OK},
		{text(strings.Repeat("0", 150) + "1099511627776"), most, api.OK},
		{text("1099511627777"), 0, api.ErrRange},
		{text(" -1099511627777"), 0, api.ErrRange},
		{text("10995116277760"), 0, api.ErrRange},
		{text("18446744073709551616"), 0, api.ErrRange}, // 2^64: 0, if it wrapped round
		{text("18446744073709551621"), 0, api.ErrRange},
		{text(strings.Repeat("9", api.MaxText)), 0, api.ErrRange},
		{text("1" + strings.Repeat("0", api.MaxText-1)), 0, api.ErrRange},
	} {
		got, err := value.Num(c.v)
		if got != c.want || err != c.err {
			t.Errorf("Num(%v): %d, %v, want %d, %v", c.v, got, err, c.want, c.err)
		}
	}
}

func TestNumOfStrIsTheNumber(t *testing.T) {
	for _, n := range edges() {
		if got, err := value.Num(text(value.Str(number(n)))); got != n || err != api.OK {
			t.Errorf("Num of %d as text: %d, %v", n, got, err)
		}
	}
}

func TestTrue(t *testing.T) {
	for _, c := range []struct {
		v    api.Value
		want bool
	}{
		{number(0), false},
		{number(1), true},
		{number(-1), true},
		{number(most), true},
		{text(""), false},
		{text("0"), true},
		{text(" "), true},
		{text("a"), true},
	} {
		if got := value.True(c.v); got != c.want {
			t.Errorf("True(%v): %t", c.v, got)
		}
	}
}

// P1.3

func TestComparisons(t *testing.T) {
	for _, c := range []struct {
		a, b  api.Value
		order int
	}{
		{number(2), number(10), -1},
		{number(-2), number(-10), 1},
		{number(-1), number(1), -1},
		{number(5), number(5), 0},
		{number(most), number(-most), 1},

		{number(10), text("9"), -1},
		{text("10"), number(9), -1},
		{text("2"), text("10"), 1},
		{number(-1), text("0"), -1},
		{number(7), text("7"), 0},
		{text("07"), number(7), -1},
		{number(0), text(""), 1},
		{text("0"), text(""), 1},

		{text(""), text(""), 0},
		{text("a"), text("ab"), -1},
		{text("b"), text("ab"), 1},
		{text("B"), text("a"), -1},
		{text("\xff"), text("é"), 1},
		{text("a\x00"), text("a"), 1},
	} {
		wantOrder(t, c.a, c.b, c.order)
		wantOrder(t, c.b, c.a, -c.order)
	}
}

func wantOrder(t *testing.T, a, b api.Value, order int) {
	t.Helper()
	for _, c := range []struct {
		op   string
		want bool
	}{
		{"<", order < 0},
		{"<=", order <= 0},
		{"==", order == 0},
		{"!=", order != 0},
		{">", order > 0},
		{">=", order >= 0},
	} {
		want := number(0)
		if c.want {
			want = number(1)
		}
		wantOp(t, c.op, a, b, want, api.Done)
	}
}

func wantOp(t *testing.T, op string, a, b, want api.Value, end int) {
	t.Helper()
	if got, e := value.Op(op, a, b); got != want || e != end {
		t.Errorf("%v %s %v: %v, %d, want %v, %d", a, op, b, got, e, want, end)
	}
}

func TestJoin(t *testing.T) {
	for _, c := range []struct {
		a, b, want api.Value
		end        int
	}{
		{text("ab"), text("cd"), text("abcd"), api.Done},
		{number(1), number(-2), text("1-2"), api.Done},
		{number(0), text("x"), text("0x"), api.Done},
		{text(""), text(""), text(""), api.Done},
		{text("1"), text("2"), text("12"), api.Done},
		{text(long(api.MaxText)), text(""), text(long(api.MaxText)), api.Done},
		{text(""), text(long(api.MaxText)), text(long(api.MaxText)), api.Done},
		{text(long(api.MaxText - 1)), text("y"), text(long(api.MaxText-1) + "y"), api.Done},
		{text(long(api.MaxText)), text("y"), zero, api.BadSize},
		{text("y"), text(long(api.MaxText)), zero, api.BadSize},
		{text(long(api.MaxText - 1)), number(10), zero, api.BadSize},
		{text(long(api.MaxText)), text(long(api.MaxText)), zero, api.BadSize},
	} {
		wantOp(t, "..", c.a, c.b, c.want, c.end)
	}
}

// P1.4

func TestReckoning(t *testing.T) {
	for _, c := range []struct {
		op         string
		a, b, want api.Value
		end        int
	}{
		{"+", number(2), text("3a"), number(5), api.Done},
		{"+", text(" 2"), text("-3"), number(-1), api.Done},
		{"+", text(""), text("x"), number(0), api.Done},
		{"-", number(2), number(3), number(-1), api.Done},
		{"*", text("4"), number(-3), number(-12), api.Done},
		{"*", number(0), number(most), number(0), api.Done},

		{"+", number(most), number(0), number(most), api.Done},
		{"+", number(most), number(1), zero, api.BadSize},
		{"+", number(-most), number(-1), zero, api.BadSize},
		{"-", number(-most), number(-most), number(0), api.Done},
		{"-", number(-most), number(1), zero, api.BadSize},
		{"-", number(most), number(-1), zero, api.BadSize},
		{"*", number(1 << 20), number(1 << 20), number(most), api.Done},
		{"*", number(1 << 20), number(-1 << 20), number(-most), api.Done},
		{"*", number(1 << 20), number(1<<20 + 1), zero, api.BadSize},
		{"*", number(most), number(most), zero, api.BadSize}, // 0, if it wrapped round
		{"*", number(1 << 32), number(1 << 32), zero, api.BadSize},
		{"*", number(most), number(-1), number(-most), api.Done},
		{"*", number(-most), number(-1), number(most), api.Done},

		{"/", number(7), number(2), number(3), api.Done},
		{"/", number(-7), number(2), number(-3), api.Done},
		{"/", number(7), number(-2), number(-3), api.Done},
		{"/", number(-7), number(-2), number(3), api.Done},
		{"/", number(1), number(2), number(0), api.Done},
		{"/", number(-most), number(-1), number(most), api.Done},
		{"%", number(7), number(3), number(1), api.Done},
		{"%", number(-7), number(3), number(-1), api.Done},
		{"%", number(7), number(-3), number(1), api.Done},
		{"%", number(-7), number(-3), number(-1), api.Done},
		{"%", number(-6), number(3), number(0), api.Done},
		{"%", text("17"), text("5 or so"), number(2), api.Done},

		{"/", number(1), number(0), zero, api.BadZero},
		{"%", number(1), number(0), zero, api.BadZero},
		{"/", number(0), number(0), zero, api.BadZero},
		{"/", number(1), text("x"), zero, api.BadZero},
		{"%", number(1), text(""), zero, api.BadZero},
	} {
		wantOp(t, c.op, c.a, c.b, c.want, c.end)
	}
}

func TestReckoningRefusesTextsThatCannotBeNumbers(t *testing.T) {
	great := text("1099511627777")
	for _, op := range []string{"+", "-", "*", "/", "%", "?"} {
		wantOp(t, op, great, number(1), zero, api.BadSize)
		wantOp(t, op, number(0), great, zero, api.BadSize)
		wantOp(t, op, great, number(0), zero, api.BadSize) // ahead of BadZero
		wantOp(t, op, great, great, zero, api.BadSize)
	}
	wantOp(t, "==", great, great, number(1), api.Done)
	wantOp(t, "..", great, text("x"), text("1099511627777x"), api.Done)
}

func TestAnyOtherTextIsRemainder(t *testing.T) {
	for _, op := range []string{"", "%%", "&&", "||", "mod", "=", "<>", ".", "...", "+ ", " +", "**", "//", "\xff"} {
		wantOp(t, op, number(-17), text("5"), number(-2), api.Done)
		wantOp(t, op, number(1), number(0), zero, api.BadZero)
	}
}

// edges: numbers that may be, about the ends and about where products grow too great.
func edges() []int {
	var l []int
	for _, n := range []int{0, 2, 10, 1 << 20, 1 << 24, 1 << 31, 1 << 32, most / 3, most / 2, most - 2} {
		for d := -2; d <= 2; d++ {
			l = append(l, n+d, -n-d)
		}
	}
	return l
}

func TestReckoningAgainstGreatNumbers(t *testing.T) {
	ops := map[string]func(z, a, b *big.Int) *big.Int{
		"+": (*big.Int).Add, "-": (*big.Int).Sub, "*": (*big.Int).Mul, "/": (*big.Int).Quo, "%": (*big.Int).Rem,
	}
	limit := big.NewInt(most)
	for op, f := range ops {
		for _, m := range edges() {
			for _, n := range edges() {
				if n == 0 && (op == "/" || op == "%") {
					wantOp(t, op, number(m), number(n), zero, api.BadZero)
					continue
				}
				z := f(new(big.Int), big.NewInt(int64(m)), big.NewInt(int64(n)))
				if z.CmpAbs(limit) > 0 {
					wantOp(t, op, number(m), number(n), zero, api.BadSize)
				} else {
					wantOp(t, op, number(m), number(n), number(int(z.Int64())), api.Done)
				}
			}
		}
	}
}

// P1.5

func wantCall(t *testing.T, name string, l []api.Value, want api.Value, end int) {
	t.Helper()
	if got, e := value.Call(name, l); got != want || e != end {
		t.Errorf("%s(%v): %v, %d, want %v, %d", name, l, got, e, want, end)
	}
}

func TestLength(t *testing.T) {
	for _, c := range []struct {
		v    api.Value
		want int
	}{
		{text(""), 0},
		{text("abc"), 3},
		{text("é"), 2},
		{text(long(api.MaxText)), api.MaxText},
		{number(0), 1},
		{number(-12), 3},
		{number(-most), 14},
	} {
		wantCall(t, "length", []api.Value{c.v}, number(c.want), api.Done)
	}
}

func TestIndex(t *testing.T) {
	for _, c := range []struct {
		a, b api.Value
		want int
	}{
		{text("abcd"), text("cd"), 3},
		{text("abcd"), text("a"), 1},
		{text("abab"), text("b"), 2},
		{text("aab"), text("ab"), 2},
		{text("abc"), text("abc"), 1},
		{text("abc"), text("abcd"), 0},
		{text("abc"), text("x"), 0},
		{text("abc"), text(""), 1},
		{text(""), text(""), 1},
		{text(""), text("a"), 0},
		{text("éa"), text("a"), 3},
		{text("é"), text("\xa9"), 2},
		{number(-123), number(23), 3},
		{number(105), text("0"), 2},
		{text("x7"), number(7), 2},
	} {
		wantCall(t, "index", []api.Value{c.a, c.b}, number(c.want), api.Done)
	}
}

func TestSubstr(t *testing.T) {
	for _, c := range []struct {
		s          api.Value
		from, many api.Value
		want       string
	}{
		{text("abcd"), number(1), number(2), "ab"},
		{text("abcd"), number(2), number(2), "bc"},
		{text("abcd"), number(1), number(4), "abcd"},
		{text("abcd"), number(4), number(1), "d"},
		{text("abcd"), number(3), number(9), "cd"},
		{text("abcd"), number(5), number(1), ""},
		{text("abcd"), number(9), number(1), ""},
		{text("abcd"), number(2), number(0), ""},
		{text("abcd"), number(2), number(-1), ""},
		{text("abcd"), number(3), number(-2), ""},
		{text("abcd"), number(0), number(3), "ab"},
		{text("abcd"), number(0), number(1), ""},
		{text("abcd"), number(-2), number(4), "a"},
		{text("abcd"), number(-2), number(3), ""},
		{text("abcd"), number(-9), number(20), "abcd"},
		{text("abcd"), number(-most), number(most), ""},
		{text("abcd"), number(1 - most), number(most), ""},
		{text("abcd"), number(2 - most), number(most), "a"},
		{text("abcd"), number(1), number(most), "abcd"},
		{text("abcd"), number(most), number(most), ""},
		{text("abcd"), number(most), number(-most), ""},
		{text("abcd"), number(-most), number(-most), ""},
		{text("abcd"), text(" 2x"), text("2.9"), "bc"},
		{text("abcd"), text("x"), text("3"), "ab"},
		{text("abcd"), number(1), text(""), ""},
		{text(""), number(1), number(1), ""},
		{text("é"), number(2), number(1), "\xa9"},
		{number(-123), number(1), number(2), "-1"},
	} {
		wantCall(t, "substr", []api.Value{c.s, c.from, c.many}, text(c.want), api.Done)
	}
}

// TestSubstrByteByByte holds substr against the promise's own words: those of the places asked for that there are.
func TestSubstrByteByByte(t *testing.T) {
	const s = "abcde"
	for from := -8; from <= 8; from++ {
		for many := -8; many <= 16; many++ {
			var want []byte
			for place := from; place < from+many; place++ {
				if 1 <= place && place <= len(s) {
					want = append(want, s[place-1])
				}
			}
			wantCall(t, "substr", []api.Value{text(s), number(from), number(many)}, text(string(want)), api.Done)
		}
	}
}

func TestCallRefuses(t *testing.T) {
	great := text("1099511627777")
	three := []api.Value{text("abc"), number(1), number(2)}
	for _, l := range [][]api.Value{{three[0], great, three[2]}, {three[0], three[1], great}, {three[0], great, great}} {
		wantCall(t, "substr", l, zero, api.BadSize)
	}
	four := append(slices.Clone(three), number(1))
	for name, count := range map[string]int{"length": 1, "index": 2, "substr": 3, "": -1, "Length": -1, "len": -1, "substr ": -1} {
		for n := range len(four) + 1 {
			if n != count {
				wantCall(t, name, four[:n], zero, api.BadSize)
			}
		}
		if count != 0 {
			wantCall(t, name, nil, zero, api.BadSize)
		}
	}
	// Of the first one no number is asked.
	wantCall(t, "substr", []api.Value{great, number(1), number(2)}, text("10"), api.Done)
}

// What holds everywhere

func TestCallLeavesItsListAlone(t *testing.T) {
	room := []api.Value{text("abcd"), number(2), number(2), text("spare"), number(9)}
	before := slices.Clone(room)
	for name, n := range map[string]int{"length": 1, "index": 2, "substr": 3, "other": 3} {
		value.Call(name, room[:n])
		if !slices.Equal(room, before) {
			t.Fatalf("%s changed its list: %v", name, room)
		}
	}
}

// odd: values that may be, and values that may not.
func odd() []api.Value {
	l := []api.Value{
		zero, number(1), number(-1), number(most), number(-most), number(most + 1), number(-most - 1),
		number(math.MaxInt), number(math.MinInt), text(""), text("-"), text(" "), text("\x00\xff"), text("1099511627777"),
		text(long(5000)), text(strings.Repeat("9", 5000)), text(strings.Repeat(" ", 5000)),
	}
	for _, v := range slices.Clone(l) {
		l = append(l, api.Value{Text: !v.Text, N: v.N, S: v.S}, api.Value{Text: v.Text, N: v.N - 3, S: v.S + "4"})
	}
	return l
}

func TestEveryCallEndsAndAnswersInForm(t *testing.T) {
	l := odd()
	for _, a := range l {
		value.Check(a)
		value.Str(a)
		value.True(a)
		if n, e := value.Num(a); e != api.OK && n != 0 {
			t.Errorf("Num(%v): %d beside %v", a, n, e)
		}
		for _, b := range l {
			for _, op := range []string{"<", "<=", "==", "!=", ">", ">=", "..", "+", "-", "*", "/", "%", "", "&&"} {
				v, end := value.Op(op, a, b)
				inForm(t, fmt.Sprint(op, a, b), v, end)
			}
			for _, name := range []string{"length", "index", "substr", ""} {
				value.Call(name, []api.Value{a})
				value.Call(name, []api.Value{a, b})
				value.Call(name, []api.Value{a, b, a})
				value.Call(name, []api.Value{text("abc"), a, b})
			}
		}
	}
}

func inForm(t *testing.T, what string, v api.Value, end int) {
	t.Helper()
	if e := value.Check(v); e != api.OK {
		t.Errorf("%s: %v may not be: %v", what, v, e)
	}
	if end != api.Done && v != zero {
		t.Errorf("%s: %v beside %d", what, v, end)
	}
}
