package device_test

import (
	"math"
	"slices"
	"testing"

	"rungwork/api"
	"rungwork/device"
	"rungwork/lut"
)

// steps asks a device for what it lets out, cycle by cycle: rows by twos, what is given and what comes out.
func steps(t *testing.T, what string, d *device.Device, l ...row) {
	t.Helper()
	for i := 0; i+1 < len(l); i += 2 {
		if got := d.Step(l[i]); !slices.Equal(got, l[i+1]) {
			t.Errorf("%s, cycle %d, of %v: %v, want %v", what, i/2, l[i], got, l[i+1])
		}
	}
}

// Promise 11.1: the document's example, in a device: the register is 1 at first, and then the first bit that is given, or not so, if the register is.
func TestStepExample(t *testing.T) {
	d := put(t, example, row{api.Bool, api.Bool}, row{api.Bool})
	steps(t, "example", d, row{0, 0}, row{1}, row{0, 1}, row{1}, row{1, 0}, row{0}, row{1, 1}, row{1}, row{0, 0}, row{1}, row{1, 1}, row{0}, row{0, 0}, row{0})
}

// Promise 11.1 (1.1): bits of numbers, the least first, type by type, are the net's, in order; bits that come out are numbers, likewise.
func TestStepTypes(t *testing.T) {
	const a, n = api.Bool, api.Byte
	for _, c := range []struct {
		in, out, given, want row
	}{
		{row{n, a}, row{n, a}, row{6, 1}, row{6, 1}},
		{row{n, a}, row{n, a}, row{130, 0}, row{130, 0}},
		{row{n, a}, row{a, n}, row{1, 0}, row{1, 0}},
		{row{n, a}, row{a, n}, row{2, 0}, row{0, 1}},
		{row{n, a}, row{a, n}, row{131, 1}, row{1, 193}},
		{row{a, n}, row{n, a}, row{1, 0}, row{1, 0}},
		{row{a, n}, row{n, a}, row{0, 1}, row{2, 0}},
		{row{a, n}, row{n, a}, row{1, 128}, row{1, 1}},
		{row{a, n}, row{n, a}, row{1, 127}, row{255, 0}},
		{row{a, a, a, a, a, a, a, a, a}, row{n, a}, row{0, 1, 1, 0, 0, 0, 0, 1, 1}, row{134, 1}},
		{row{n, a}, row{a, a, a, a, a, a, a, a, a}, row{134, 1}, row{0, 1, 1, 0, 0, 0, 0, 1, 1}},
	} {
		steps(t, "types", put(t, written(t, nine()), c.in, c.out), c.given, c.want, row{}, make(row, len(c.out)), c.given, c.want)
	}
	turned := &lut.Net{Given: 16, Outs: row{15, 14, 13, 12, 11, 10, 9, 8, 7, 6, 5, 4, 3, 2, 1, 0, 0, 15}}
	steps(t, "turned", put(t, written(t, turned), row{n, n}, row{n, n, a, a}),
		row{1, 0}, row{0, 128, 1, 0}, row{0, 1}, row{128, 0, 0, 0}, row{240, 128}, row{1, 15, 0, 1}, row{3, 6}, row{96, 192, 1, 0})
}

// Promise 11.1 (1.1): what is above what there is room for is not seen: all numbers, cut to their bits.
func TestStepCut(t *testing.T) {
	d := put(t, written(t, nine()), row{api.Byte, api.Bool}, row{api.Byte, api.Bool})
	for n := -600; n < 600; n++ {
		steps(t, "cut", d, row{n, n}, row{(n + 768) % 256, (n + 768) % 2}, row{n, 5 - n}, row{(n + 768) % 256, (n + 769) % 2})
	}
	steps(t, "cut", d, row{math.MaxInt, math.MaxInt}, row{255, 1}, row{math.MinInt, math.MinInt}, row{0, 0},
		row{math.MaxInt - 1, math.MinInt + 1}, row{254, 1}, row{1 << 32, 1 << 8}, row{0, 0}, row{1<<62 + 77, 1<<62 + 2}, row{77, 0})
}

// Promise 11.1: what is missing is 0, not what it was ahead; what is beyond is not seen, nor what stands behind the list's length.
func TestStepGiven(t *testing.T) {
	d := put(t, written(t, nine()), row{api.Bool, api.Byte}, row{api.Bool, api.Byte})
	steps(t, "given", d, row{1, 255}, row{1, 255}, nil, row{0, 0}, row{1, 9}, row{1, 9}, row{1}, row{1, 0}, row{}, row{0, 0},
		row{0, 7, 255}, row{0, 7}, row{0, 0, 1, 1, 1, 1, 1, 1, 1, 1}, row{0, 0}, row{1, 2, 3}[:1], row{1, 0}, row{1, 2, 3}[:0], row{0, 0}, row{1, 2, 3}[1:], row{0, 3})
	d = put(t, "\x00\x00\x00\x00", nil, nil)
	steps(t, "nothing", d, nil, nil, row{1, 2, 3}, nil)
	ever := put(t, written(t, &lut.Net{Luts: luts{{Table: 1}}, Outs: row{0, 0}}), nil, row{api.Bool, api.Bool})
	steps(t, "nothing given", ever, nil, row{1, 1}, row{0, 0}, row{1, 1})
	taken := put(t, written(t, &lut.Net{Given: 8}), row{api.Byte}, nil)
	steps(t, "nothing out", taken, nil, nil, row{200}, nil)
}

// Promise P4: nothing that is handed in is written into, or kept; what comes out is fresh.
func TestStepFresh(t *testing.T) {
	in, out := row{api.Byte, api.Bool, api.Bool}, row{api.Bool, api.Byte, api.Bool}
	d := put(t, written(t, nine()), in[:2], out[:2])
	if !slices.Equal(in, row{api.Byte, api.Bool, api.Bool}) || !slices.Equal(out, row{api.Bool, api.Byte, api.Bool}) {
		t.Errorf("New wrote into its lists: %v, %v", in, out)
	}
	in[0], in[1], out[0], out[1] = 77, 0, api.Byte, -1
	given := row{131, 300, 5}
	one := d.Step(given[:1])
	if !slices.Equal(given, row{131, 300, 5}) || !slices.Equal(one, row{1, 65}) {
		t.Errorf("of %v: %v", given, one)
	}
	given[0] = 0
	two := d.Step(row{255, 1})
	if !slices.Equal(one, row{1, 65}) {
		t.Errorf("what came out is %v", one)
	}
	one[0], two[0], two[1] = 9, 9, 9
	steps(t, "fresh", d, row{131}, row{1, 65})
}

// Promise 11.1: two devices of one image don't know of one another.
func TestStepTwo(t *testing.T) {
	one := put(t, example, row{api.Bool, api.Bool}, row{api.Bool})
	two := put(t, example, row{api.Bool, api.Bool}, row{api.Bool})
	steps(t, "one", one, row{1}, row{0}, row{0}, row{0})
	steps(t, "two", two, row{0}, row{1}, row{0}, row{1})
	steps(t, "one", one, row{0}, row{0})
	steps(t, "two", two, row{0}, row{1})
}
