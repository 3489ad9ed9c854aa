package signal_test

import (
	"math/rand"
	"slices"
	"strings"
	"testing"

	"signal/signal"
)

func wantUnpack(t *testing.T, text string, id string, payload string, want []int, wantSigns string, wantErr signal.Errno, wantPlace int) {
	t.Helper()
	values, signs, err, place := signal.Unpack(text, id, payload)
	if !slices.Equal(values, want) || signs != wantSigns || err != wantErr || place != wantPlace {
		t.Errorf("Unpack(%.330q, %.20q, %.20q) = %v %q %d %d, want %v %q %d %d",
			text, id, payload, values, signs, err, place, want, wantSigns, wantErr, wantPlace)
	}
}

func randomBytes(r *rand.Rand, size int) string {
	bytes := make([]byte, size)
	r.Read(bytes)
	return string(bytes)
}

func TestUnpackValues(t *testing.T) {
	for _, c := range []struct {
		text    string
		id      string
		payload string
		want    []int
		signs   string
	}{
		{muxed, "1A0", "\x00\xff", []int{0, 15, 0}, "++-"},
		{muxed, "1A0", "\xf1\xff", []int{1, 0, -1}, "+-+"},
		{muxed, "1A0", "\x01\x80", []int{1, 0, -128}, "+-+"},
		{muxed, "1A0", "\x02\xff", []int{2, 0, 0}, "+--"},
		{mixed, "000", "\xfe\xff\xff\xff\x12\x34\x56\x78", []int{-2, 0x12345678}, "++"},
		{mixed, "000", "\x00\x00\x00\x80\xff\xff\xff\xff", []int{-1 << 31, 1<<32 - 1}, "++"},
		{mixed, "7FF", "\xff", []int{255}, "+"},
		{mixed, "010", "", nil, ""},
		{late, "020", "\x06\x01", []int{0, 6, 1}, "-++"},
		{late, "020", "\x06\x02", []int{0, 0, 2}, "--+"},
		{minus, "030", "\x03", []int{-1, 0, 0}, "+--"},
		{minus, "030", "\x02", []int{0, 1, 0}, "++-"},
		{"0003,a0010>u-", "000", "\x01\x00\x80", []int{0x201}, "+"},
		{"0003", "000", "abc", nil, ""},
	} {
		wantUnpack(t, c.text, c.id, c.payload, c.want, c.signs, signal.OK, 0)
	}
}

func TestUnpackErrorsInOrder(t *testing.T) {
	wantUnpack(t, strings.Repeat("x", 321), "x", "", nil, "", signal.ErrLong, 0)
	wantUnpack(t, strings.Repeat("x", 320), "x", "", nil, "", signal.ErrText, 0)
	wantUnpack(t, "x", "x", "123456789", nil, "", signal.ErrLong, 0)
	wantUnpack(t, mixed, "x", "123456789", nil, "", signal.ErrLong, 0)
	wantUnpack(t, mixed, "000", strings.Repeat("1", 1<<20), nil, "", signal.ErrLong, 0)
	wantUnpack(t, "000", "x", "12345678", nil, "", signal.ErrText, 3)
	wantUnpack(t, "0001,a0001<u0", "x", "", nil, "", signal.ErrMux, 5)
	wantUnpack(t, "0000;0011,a0001<u-,b0001<u-", "000", "", nil, "", signal.ErrShare, 19)
	wantUnpack(t, "0001,a0009<u-", "000", "1", nil, "", signal.ErrFit, 5)
	for _, id := range []string{"", "1", "1A", "1A1", "1a0", "1A0 ", "1A00", "01A0", "9A0", strings.Repeat("1A0", 1000)} {
		wantUnpack(t, muxed, id, "abc", nil, "", signal.ErrId, 0)
	}
	for size := range 9 {
		if size != 2 {
			wantUnpack(t, muxed, "1A0", strings.Repeat("a", size), nil, "", signal.ErrSize, 0)
		}
	}
}

func TestUnpackModel(t *testing.T) {
	r := rand.New(rand.NewSource(5))
	for range 800 {
		text, m := soundText(r)
		for range 8 {
			payload := randomBytes(r, m.size)
			values, signs, err, place := modelUnpack(text, m.id, payload)
			wantUnpack(t, text, m.id, payload, values, signs, err, place)
		}
		payload := randomBytes(r, r.Intn(11))
		values, signs, err, place := modelUnpack(text, m.id, payload)
		wantUnpack(t, text, m.id, payload, values, signs, err, place)
	}
}

// P6: values there and back, and payloads there and back.
func TestThereAndBack(t *testing.T) {
	r := rand.New(rand.NewSource(6))
	resting := 0
	for range 800 {
		text, m := soundText(r)
		values := []int{}
		for _, s := range m.signals {
			values = append(values, randomValue(r, s))
		}
		packed, err, place := signal.Pack(text, m.id, values)
		if err != signal.OK || len(packed) != m.size {
			t.Fatalf("Pack(%q, %v) = %q %d %d", text, values, packed, err, place)
		}
		for i, active := range modelActive(m, values) {
			if !active {
				values[i] = 0
				resting++
			}
		}
		back, signs, err, _ := signal.Unpack(text, m.id, packed)
		if err != signal.OK || !slices.Equal(back, values) {
			t.Errorf("P6: %q: packed %v, unpacked %v %q %d", text, values, back, signs, err)
		}

		payload := randomBytes(r, m.size)
		held, signs, err, _ := signal.Unpack(text, m.id, payload)
		if err != signal.OK || len(signs) != len(m.signals) {
			t.Fatalf("Unpack(%q, %q) = %v %q %d", text, payload, held, signs, err)
		}
		again, err, _ := signal.Pack(text, m.id, held)
		if want := masked(m, payload, signs); err != signal.OK || again != want {
			t.Errorf("P6: %q: unpacked %q, packed %q %d, want %q", text, payload, again, err, want)
		}
	}
	if resting < 500 {
		t.Errorf("only %d signals were not active", resting)
	}
}
