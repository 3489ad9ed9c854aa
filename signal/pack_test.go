package signal_test

import (
	"math"
	"math/rand"
	"slices"
	"strings"
	"testing"

	"signal/signal"
)

const (
	muxed = "1A02,m0004<uM,a0804<u0,b1508>s1"
	mixed = "0008,a0032<s-,b3932>u-;7FF1,x0708>u-;0100"
	late  = "0202,a0003<u5,b0003<u1,m0802<uM" // 5 is more than m can hold
	minus = "0301,m0001<sM,a0101<u0,b0101<u1" // m holds 0 or -1
)

func wantPack(t *testing.T, text string, id string, values []int, want string, wantErr signal.Errno, wantPlace int) {
	t.Helper()
	payload, err, place := signal.Pack(text, id, values)
	if payload != want || err != wantErr || place != wantPlace {
		t.Errorf("Pack(%.330q, %.20q, %v) = %q %d %d, want %q %d %d", text, id, values, payload, err, place, want, wantErr, wantPlace)
	}
}

func TestPackValues(t *testing.T) {
	for _, c := range []struct {
		text   string
		id     string
		values []int
		want   string
	}{
		{muxed, "1A0", []int{0, 5, 0}, "\x00\x05"},
		{muxed, "1A0", []int{1, 5, -2}, "\x01\xfe"},
		{muxed, "1A0", []int{2, 5, -2}, "\x02\x00"},
		{muxed, "1A0", []int{15, math.MaxInt, math.MinInt}, "\x0f\x00"},
		{mixed, "000", []int{-2, 0x12345678}, "\xfe\xff\xff\xff\x12\x34\x56\x78"},
		{mixed, "000", []int{math.MinInt32, math.MaxUint32}, "\x00\x00\x00\x80\xff\xff\xff\xff"},
		{mixed, "000", []int{math.MaxInt32, 0}, "\xff\xff\xff\x7f\x00\x00\x00\x00"},
		{mixed, "7FF", []int{255}, "\xff"},
		{mixed, "010", nil, ""},
		{late, "020", []int{7, 6, 1}, "\x06\x01"},
		{late, "020", []int{8, 8, 0}, "\x00\x00"},
		{minus, "030", []int{-1, 7, 7}, "\x01"},
		{minus, "030", []int{0, 1, 7}, "\x02"},
		{"0003,a0010>u-", "000", []int{0x201}, "\x01\x00\x80"},
		{"0003", "000", []int{}, "\x00\x00\x00"},
	} {
		wantPack(t, c.text, c.id, c.values, c.want, signal.OK, 0)
	}
}

// Each length of each kind: the bounds fit, and the values just behind do not.
func TestPackBounds(t *testing.T) {
	for length := 1; length <= 32; length++ {
		digits := string([]byte{byte('0' + length/10), byte('0' + length%10)})
		all := 1 << length
		for _, c := range []struct {
			kind string
			low  int
			high int
		}{{"u", 0, all - 1}, {"s", -all / 2, all/2 - 1}} {
			text := "0008,z6301<u-,a00" + digits + "<" + c.kind + "-"
			for _, value := range []int{c.low - 1, c.high + 1, math.MinInt, math.MaxInt, c.low + 1<<32 + all, c.high - 1<<32 - all} {
				wantPack(t, text, "000", []int{0, value}, "", signal.ErrRange, 1)
			}
			for _, value := range []int{c.low, c.high} {
				want, err, place := modelPack(text, "000", []int{0, value})
				if err != signal.OK {
					t.Fatalf("the model refuses %d at length %d", value, length)
				}
				wantPack(t, text, "000", []int{0, value}, want, err, place)
			}
		}
	}
}

func TestPackRange(t *testing.T) {
	for _, c := range []struct {
		text   string
		id     string
		values []int
		place  int
	}{
		{muxed, "1A0", []int{16, 16, 128}, 0},
		{muxed, "1A0", []int{-1, 0, 0}, 0},
		{muxed, "1A0", []int{0, 16, 128}, 1},
		{muxed, "1A0", []int{1, 16, 128}, 2},
		{muxed, "1A0", []int{1, 16, -129}, 2},
		{mixed, "000", []int{math.MaxInt32 + 1, math.MaxUint32 + 1}, 0},
		{mixed, "000", []int{0, math.MaxUint32 + 1}, 1},
		{late, "020", []int{8, 0, 5}, 0}, // active by the value in values, though m cannot hold it
		{late, "020", []int{7, 0, 5}, 2},
		{late, "020", []int{8, 8, 4}, 2},
		{minus, "030", []int{1, 0, 2}, 0},
	} {
		wantPack(t, c.text, c.id, c.values, "", signal.ErrRange, c.place)
	}
}

func TestPackErrorsInOrder(t *testing.T) {
	wantPack(t, strings.Repeat("x", 321), "x", nil, "", signal.ErrLong, 0)
	wantPack(t, "000", "x", nil, "", signal.ErrText, 3)
	wantPack(t, "0001,a0001<u0", "x", nil, "", signal.ErrMux, 5)
	wantPack(t, "0001,a0001<u-,a0001<u-", "000", []int{0, 0}, "", signal.ErrTwice, 14)
	wantPack(t, "0000;0011,a0001<u-,b0001<u-", "000", nil, "", signal.ErrShare, 19)
	wantPack(t, "0001,a0009<u-", "000", []int{0}, "", signal.ErrFit, 5)
	for _, id := range []string{"", "1", "1A", "1A1", "1a0", "1A0 ", "1A00", "01A0", "9A0", "\xff\xff\xff", strings.Repeat("1A0", 1000)} {
		wantPack(t, muxed, id, []int{99}, "", signal.ErrId, 0)
	}
	for _, values := range [][]int{nil, {}, {99}, {99, 99}, {99, 99, 99, 99}, make([]int, 100000)} {
		wantPack(t, muxed, "1A0", values, "", signal.ErrCount, 0)
	}
}

func TestPackModel(t *testing.T) {
	r := rand.New(rand.NewSource(4))
	seen := map[signal.Errno]int{}
	for range 800 {
		text, m := soundText(r)
		for range 8 {
			values := []int{}
			for _, s := range m.signals {
				values = append(values, randomValue(r, s))
			}
			if len(values) > 0 && r.Intn(3) == 0 {
				values[r.Intn(len(values))] = r.Intn(1<<34) - 1<<33
			}
			before := slices.Clone(values)
			payload, err, place := modelPack(text, m.id, values)
			wantPack(t, text, m.id, values, payload, err, place)
			if !slices.Equal(values, before) {
				t.Errorf("P2: Pack(%q) changed its values", text)
			}
			seen[err]++
		}
	}
	if seen[signal.OK] < 1000 || seen[signal.ErrRange] < 1000 {
		t.Errorf("too few cases of a kind: %v", seen)
	}
}
