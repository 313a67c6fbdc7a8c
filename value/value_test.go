package value_test

import (
	"math"
	"slices"
	"strconv"
	"strings"
	"testing"

	"rungwork/api"
	"rungwork/value"
)

// noTypes are numbers that stand for no type of values: blocks, and what is none at all.
var noTypes = []int{0, -1, -2, api.Timer, api.Counter, api.Edge, 6, 8, 64, 257, 258, math.MinInt, math.MaxInt}

// edges are numbers at the ends of bits, of bytes, and of all numbers.
var edges = []int{
	0, 1, 2, 3, 127, 128, 254, 255, 256, 257, 511, 512, 1<<32 + 5, 1 << 62, math.MaxInt, math.MaxInt - 1,
	-1, -2, -127, -128, -129, -255, -256, -257, -512, -1 << 32, math.MinInt, math.MinInt + 1,
}

// marks are all marks of two.
var marks = []string{"and", "or", "xor", "=", "<>", "<", "<=", ">", ">=", "+", "-"}

// noMarks are texts that are no mark of two.
var noMarks = []string{"", "x", "not", "AND", "And", " and", "and ", "andor", "==", "!=", "><", "=<", "=>", "<<", ":=", "*", "/", "++", "--", "\x00", "\xff", "true"}

// written is n's last bits, the least first, of n as it is written with bits.
func written(n, many int) []bool {
	s := strconv.FormatUint(uint64(n), 2)
	s = strings.Repeat("0", 64-len(s)) + s
	var l []bool
	for i := range many {
		l = append(l, s[len(s)-1-i] == '1')
	}
	return l
}

// rest is n less as many wholes as there are in it, never below 0.
func rest(n, whole int) int {
	return (n%whole + whole) % whole
}

func TestWidth(t *testing.T) {
	if got := value.Width(api.Bool); got != 1 {
		t.Errorf("Bool: %d, not 1", got)
	}
	if got := value.Width(api.Byte); got != 8 {
		t.Errorf("Byte: %d, not 8", got)
	}
	for _, k := range noTypes {
		if got := value.Width(k); got != 0 {
			t.Errorf("type %d: %d, not 0", k, got)
		}
	}
}

func TestCutKeepsLastBits(t *testing.T) {
	numbers := slices.Clone(edges)
	for n := -1100; n <= 1100; n++ {
		numbers = append(numbers, n)
	}
	for _, n := range numbers {
		if got, want := value.Cut(api.Bool, n), rest(n, 2); got != want {
			t.Errorf("Bool %d: %d, not %d", n, got, want)
		}
		if got, want := value.Cut(api.Byte, n), rest(n, 256); got != want {
			t.Errorf("Byte %d: %d, not %d", n, got, want)
		}
		for _, k := range noTypes {
			if got := value.Cut(k, n); got != 0 {
				t.Errorf("type %d, %d: %d, not 0", k, n, got)
			}
		}
	}
}

func TestCutByHand(t *testing.T) {
	for _, c := range []struct{ kind, n, want int }{
		{api.Bool, 2, 0}, {api.Bool, 3, 1}, {api.Bool, -1, 1}, {api.Bool, -2, 0},
		{api.Byte, 255, 255}, {api.Byte, 256, 0}, {api.Byte, 260, 4}, {api.Byte, -1, 255}, {api.Byte, -255, 1}, {api.Byte, -256, 0},
		{api.Byte, math.MaxInt, 255}, {api.Byte, math.MinInt, 0}, {api.Timer, 255, 0},
	} {
		if got := value.Cut(c.kind, c.n); got != c.want {
			t.Errorf("type %d, %d: %d, not %d", c.kind, c.n, got, c.want)
		}
	}
}

func TestBitsAreTheLeastFirst(t *testing.T) {
	if got, want := value.Bits(api.Byte, 6), []bool{false, true, true, false, false, false, false, false}; !slices.Equal(got, want) {
		t.Errorf("6: %v, not %v", got, want)
	}
	for _, n := range edges {
		if got, want := value.Bits(api.Bool, n), written(n, 1); !slices.Equal(got, want) {
			t.Errorf("Bool %d: %v, not %v", n, got, want)
		}
		if got, want := value.Bits(api.Byte, n), written(n, 8); !slices.Equal(got, want) {
			t.Errorf("Byte %d: %v, not %v", n, got, want)
		}
		for _, k := range noTypes {
			if got := value.Bits(k, n); len(got) != 0 {
				t.Errorf("type %d, %d: %v, not none", k, n, got)
			}
		}
	}
}

func TestBitsAreFresh(t *testing.T) {
	l := value.Bits(api.Byte, 0)
	l[0], l[7] = true, true
	if got := value.Of(value.Bits(api.Byte, 0)); got != 0 {
		t.Errorf("0, asked once more: %d", got)
	}
}

func TestOfBitsIsCut(t *testing.T) {
	for n := -300; n <= 600; n++ {
		for _, k := range []int{api.Bool, api.Byte} {
			if got, want := value.Of(value.Bits(k, n)), value.Cut(k, n); got != want {
				t.Errorf("type %d, %d: %d, not %d", k, n, got, want)
			}
		}
	}
}

func TestOfCountsEachPlace(t *testing.T) {
	if value.Of(nil) != 0 || value.Of([]bool{}) != 0 {
		t.Error("no bits: not 0")
	}
	for _, long := range []int{1, 8, 9, 61, 62, 63, 64, 65, 200} {
		for i := range long {
			l := make([]bool, long)
			l[i] = true
			want := 0
			if i < 62 {
				want = 1 << i
			}
			if got := value.Of(l); got != want {
				t.Errorf("bit %d of %d: %d, not %d", i, long, got, want)
			}
		}
	}
}

func TestOfTakesOnlyTheFirst62(t *testing.T) {
	for _, c := range []struct{ long, want int }{
		{1, 1}, {8, 255}, {61, 1<<61 - 1}, {62, 1<<62 - 1}, {63, 1<<62 - 1}, {64, 1<<62 - 1}, {65, 1<<62 - 1}, {1000, 1<<62 - 1},
	} {
		l := slices.Repeat([]bool{true}, c.long)
		if got := value.Of(l); got != c.want {
			t.Errorf("%d bits: %d, not %d", c.long, got, c.want)
		}
	}
}

func TestOfLeavesTheListAlone(t *testing.T) {
	whole := []bool{true, false, true, true, false, true}
	was := slices.Clone(whole)
	if got := value.Of(whole[:3]); got != 5 {
		t.Errorf("what stands behind the length counts: %d, not 5", got)
	}
	if !slices.Equal(whole, was) {
		t.Errorf("the list is %v now, was %v", whole, was)
	}
}

// wantResult is the document's list, mark by mark, of Bool twice and of Byte twice.
var wantResult = map[string][2]int{
	"and": {api.Bool, api.Byte}, "or": {api.Bool, api.Byte}, "xor": {api.Bool, api.Byte},
	"=": {api.Bool, api.Bool}, "<>": {api.Bool, api.Bool},
	"<": {0, api.Bool}, "<=": {0, api.Bool}, ">": {0, api.Bool}, ">=": {0, api.Bool},
	"+": {0, api.Byte}, "-": {0, api.Byte},
}

func TestResult(t *testing.T) {
	for _, op := range append(slices.Clone(marks), noMarks...) {
		want := wantResult[op]
		if got := value.Result(op, api.Bool, api.Bool); got != want[0] {
			t.Errorf("%q of Bool: %d, not %d", op, got, want[0])
		}
		if got := value.Result(op, api.Byte, api.Byte); got != want[1] {
			t.Errorf("%q of Byte: %d, not %d", op, got, want[1])
		}
	}
}

func TestResultOfOtherTypesIsNone(t *testing.T) {
	for _, op := range append(slices.Clone(marks), noMarks...) {
		if value.Result(op, api.Bool, api.Byte) != 0 || value.Result(op, api.Byte, api.Bool) != 0 {
			t.Errorf("%q of a bit and a byte: not 0", op)
		}
		for _, k := range noTypes {
			for _, j := range append([]int{api.Bool, api.Byte}, noTypes...) {
				if value.Result(op, k, j) != 0 || value.Result(op, j, k) != 0 {
					t.Errorf("%q of types %d and %d: not 0", op, k, j)
				}
			}
		}
	}
}

// wantTwo is what a mark comes to of two that are cut, of a whole of 2 or 256: told by reckoning, not by the machine's bits.
func wantTwo(op string, whole, a, b int) int {
	truth := map[string]bool{"=": a == b, "<>": a != b, "<": a < b, "<=": a <= b, ">": a > b, ">=": a >= b}
	if whole == 2 && strings.Contains(" < <= > >= + - ", " "+op+" ") {
		return 0
	}
	switch op {
	case "+":
		return rest(a+b, whole)
	case "-":
		return rest(a-b, whole)
	case "and", "or", "xor":
		n := 0
		for place := 1; place < whole; place *= 2 {
			many := a/place%2 + b/place%2
			if many == 2 && op != "xor" || many == 1 && op != "and" {
				n += place
			}
		}
		return n
	}
	if truth[op] {
		return 1
	}
	return 0
}

func TestTwoOfAllBytes(t *testing.T) {
	for _, op := range marks {
		for a := range 256 {
			for b := range 256 {
				if got, want := value.Two(op, api.Byte, a, b), wantTwo(op, 256, a, b); got != want {
					t.Fatalf("%d %s %d: %d, not %d", a, op, b, got, want)
				}
			}
		}
	}
}

func TestTwoOfAllBits(t *testing.T) {
	for _, op := range marks {
		for a := range 2 {
			for b := range 2 {
				if got, want := value.Two(op, api.Bool, a, b), wantTwo(op, 2, a, b); got != want {
					t.Errorf("%d %s %d: %d, not %d", a, op, b, got, want)
				}
			}
		}
	}
}

func TestTwoCutsBoth(t *testing.T) {
	for _, op := range marks {
		for _, a := range edges {
			for _, b := range edges {
				if got, want := value.Two(op, api.Byte, a, b), wantTwo(op, 256, rest(a, 256), rest(b, 256)); got != want {
					t.Errorf("bytes %d %s %d: %d, not %d", a, op, b, got, want)
				}
				if got, want := value.Two(op, api.Bool, a, b), wantTwo(op, 2, rest(a, 2), rest(b, 2)); got != want {
					t.Errorf("bits %d %s %d: %d, not %d", a, op, b, got, want)
				}
			}
		}
	}
}

func TestTwoByHand(t *testing.T) {
	for _, c := range []struct {
		op               string
		kind, a, b, want int
	}{
		{"+", api.Byte, 250, 10, 4}, {"-", api.Byte, 0, 1, 255}, {"-", api.Byte, 3, 10, 249}, {"+", api.Byte, 255, 1, 0},
		{"and", api.Byte, 12, 10, 8}, {"or", api.Byte, 12, 10, 14}, {"xor", api.Byte, 12, 10, 6},
		{"=", api.Byte, 256, 0, 1}, {"<>", api.Byte, -1, 255, 0}, {"<", api.Byte, -1, 1, 0}, {">", api.Byte, -1, 1, 1}, {"<=", api.Byte, 256, 255, 1}, {">=", api.Byte, 255, 256, 1},
		{"=", api.Bool, 3, 1, 1}, {"<>", api.Bool, 2, 1, 1}, {"xor", api.Bool, 3, 2, 1}, {"<", api.Bool, 0, 1, 0}, {"+", api.Bool, 0, 1, 0},
	} {
		if got := value.Two(c.op, c.kind, c.a, c.b); got != c.want {
			t.Errorf("type %d, %d %s %d: %d, not %d", c.kind, c.a, c.op, c.b, got, c.want)
		}
	}
}

func TestTwoThatMayNotBeIsNought(t *testing.T) {
	for _, a := range edges {
		for _, b := range edges {
			for _, op := range noMarks {
				if value.Two(op, api.Bool, a, b) != 0 || value.Two(op, api.Byte, a, b) != 0 {
					t.Errorf("%d %q %d: not 0", a, op, b)
				}
			}
			for _, k := range noTypes {
				for _, op := range marks {
					if got := value.Two(op, k, a, b); got != 0 {
						t.Errorf("type %d, %d %s %d: %d, not 0", k, a, op, b, got)
					}
				}
			}
		}
	}
}

func TestNot(t *testing.T) {
	for _, n := range edges {
		if got, want := value.Not(api.Bool, n), 1-rest(n, 2); got != want {
			t.Errorf("Bool %d: %d, not %d", n, got, want)
		}
		if got, want := value.Not(api.Byte, n), 255-rest(n, 256); got != want {
			t.Errorf("Byte %d: %d, not %d", n, got, want)
		}
		for _, k := range noTypes {
			if got := value.Not(k, n); got != 0 {
				t.Errorf("type %d, %d: %d, not 0", k, n, got)
			}
		}
	}
}
