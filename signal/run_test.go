package signal_test

import (
	"math"
	"math/rand"
	"slices"
	"strings"
	"testing"

	"signal/signal"
)

func wantFill(t *testing.T, code string, values []int, size int, want string, wantErr signal.Errno, wantPlace int) {
	t.Helper()
	payload, err, place := signal.Fill(code, values, size)
	if payload != want || err != wantErr || place != wantPlace {
		t.Errorf("P9: Fill(%.100q, %d values %v, %d) = %q %d %d, want %q %d %d",
			code, len(values), values[:min(len(values), 9)], size, payload, err, place, want, wantErr, wantPlace)
	}
}

func wantRead(t *testing.T, code string, payload string, want []int, wantSigns string, wantErr signal.Errno, wantPlace int) {
	t.Helper()
	values, signs, err, place := signal.Read(code, payload)
	if !slices.Equal(values, want) || signs != wantSigns || err != wantErr || place != wantPlace {
		t.Errorf("P10: Read(%.100q, %.20q) = %v %q %d %d, want %v %q %d %d",
			code, payload, values, signs, err, place, want, wantSigns, wantErr, wantPlace)
	}
}

// The document's own instance: 5 goes to bits 9 to 11, and back as 80.
func TestRunInstance(t *testing.T) {
	put := op('P', 0, 9, 0, 3)
	get := op('G', 1, 9, 4, 3)
	wantFill(t, put, []int{5}, 8, "\x00\x0a\x00\x00\x00\x00\x00\x00", signal.OK, 0)
	wantRead(t, get, "\x00\x0a", []int{0, 80, 0, 0, 0, 0, 0, 0}, "--------", signal.OK, 0)
	wantFill(t, put+get+op('P', 1, 16, 0, 8), []int{5}, 3, "\x00\x0a\x50", signal.OK, 0)
}

func TestRunGet(t *testing.T) {
	ones := "\xff\xff\xff\xff\xff\xff\xff\xff"
	show := func(r int) string {
		return op('P', r, 0, 0, 8) + op('P', r, 8, 8, 8) + op('P', r, 16, 16, 8) + op('P', r, 24, 24, 8)
	}
	wantRead(t, op('G', 7, 63, 31, 1), ones, []int{0, 0, 0, 0, 0, 0, 0, 1 << 31}, "--------", signal.OK, 0)
	wantRead(t, op('G', 0, 56, 24, 8), ones, []int{255 << 24, 0, 0, 0, 0, 0, 0, 0}, "--------", signal.OK, 0)
	wantRead(t, op('G', 0, 0, 0, 4)+op('G', 0, 4, 4, 4), "\xa5", []int{0xa5, 0, 0, 0, 0, 0, 0, 0}, "--------", signal.OK, 0)
	wantRead(t, op('G', 0, 0, 4, 4)+op('G', 0, 4, 0, 4), "\xa5", []int{0x5a, 0, 0, 0, 0, 0, 0, 0}, "--------", signal.OK, 0)
	// Ones are laid over by zeros, and the bits beside them stay.
	wantRead(t, op('G', 0, 0, 0, 8)+op('G', 0, 8, 2, 3), "\xff\x00", []int{0xe3, 0, 0, 0, 0, 0, 0, 0}, "--------", signal.OK, 0)
	// The payload stays, and so does every bit beside those that are got.
	wantFill(t, op('P', 0, 0, 0, 8)+op('G', 1, 0, 0, 8), []int{0x5a}, 1, "\x5a", signal.OK, 0)
	wantFill(t, op('G', 0, 0, 8, 4)+show(0), []int{-1}, 4, "\xff\xf0\xff\xff", signal.OK, 0)
	// The register is taken modulo 2 to the 32: 2 to the 32 and 7 become 7.
	wantFill(t, op('G', 0, 0, 3, 1)+op('R', 0, 0, 0, 3), []int{1<<32 + 7}, 1, "\x00", signal.OK, 0)
	wantFill(t, op('G', 0, 0, 0, 1)+op('R', 0, 0, 0, 32), []int{-1}, 1, "\x00", signal.OK, 0)
	wantFill(t, op('G', 0, 0, 0, 1)+op('R', 0, 0, 0, 32), []int{math.MinInt}, 1, "\x00", signal.OK, 0)
	wantFill(t, op('R', 0, 0, 0, 32), []int{-1}, 1, "", signal.ErrRange, 0)
}

func TestRunPut(t *testing.T) {
	wantFill(t, op('P', 7, 63, 31, 1), []int{0, 0, 0, 0, 0, 0, 0, 1 << 31}, 8, "\x00\x00\x00\x00\x00\x00\x00\x80", signal.OK, 0)
	wantFill(t, op('P', 0, 56, 24, 8), []int{0x12345678}, 8, "\x00\x00\x00\x00\x00\x00\x00\x12", signal.OK, 0)
	wantFill(t, op('P', 0, 0, 24, 8), []int{-1 << 28}, 1, "\xf0", signal.OK, 0)
	wantFill(t, op('P', 0, 0, 0, 8), []int{math.MaxInt}, 1, "\xff", signal.OK, 0)
	wantFill(t, op('P', 0, 0, 24, 8), []int{math.MinInt}, 1, "\x00", signal.OK, 0)
	// Zeros are laid over ones, the bits beside them stay.
	wantFill(t, op('P', 0, 0, 0, 8)+op('P', 1, 2, 0, 3), []int{255}, 1, "\xe3", signal.OK, 0)
	// The register stays, modulo or not.
	wantFill(t, op('P', 0, 0, 0, 8)+op('R', 0, 0, 0, 32), []int{1 << 32}, 1, "", signal.ErrRange, 0)
	wantFill(t, op('P', 0, 0, 0, 4)+op('P', 0, 8, 0, 8), []int{0x77}, 2, "\x07\x77", signal.OK, 0)
	// What is put can be read in the same run.
	wantRead(t, op('P', 3, 0, 0, 4)+op('G', 1, 0, 0, 8), "\xff", []int{0, 0xf0, 0, 0, 0, 0, 0, 0}, "--------", signal.OK, 0)
}

func TestRunExtend(t *testing.T) {
	for n := 1; n <= 32; n++ {
		all := 1 << n
		for _, value := range []int{0, 1, all/2 - 1, all / 2, all - 1, all, all + all/2, -1, -all / 2, -all/2 - 1, -all, math.MaxInt, math.MinInt} {
			want := ((value % all) + all) % all
			if want >= all/2 {
				want -= all
			}
			// No register of Fill is answered, so the value is held to by ranges.
			extend := op('X', 5, 9, 9, n)
			values := []int{0, 0, 0, 0, 0, value}
			wantFill(t, extend+op('R', 5, 0, 1, n), values, 0, "", signal.OK, 0)
			bytes, err, _ := signal.Fill(extend+op('P', 5, 0, 0, 8)+op('P', 5, 8, 8, 8)+op('P', 5, 16, 16, 8)+op('P', 5, 24, 24, 8), values, 4)
			if got := string([]byte{byte(want), byte(want >> 8), byte(want >> 16), byte(want >> 24)}); err != signal.OK || bytes != got {
				t.Errorf("P7: X with n %d makes %q of %d (error %d), want %q", n, bytes, value, err, got)
			}
		}
	}
	get := op('G', 2, 0, 0, 8)
	wantRead(t, get+op('X', 2, 0, 0, 4), "\xf7", []int{0, 0, 7, 0, 0, 0, 0, 0}, "--------", signal.OK, 0)
	wantRead(t, get+op('X', 2, 0, 0, 4), "\x08", []int{0, 0, -8, 0, 0, 0, 0, 0}, "--------", signal.OK, 0)
	wantRead(t, get+op('X', 2, 0, 0, 1), "\x01", []int{0, 0, -1, 0, 0, 0, 0, 0}, "--------", signal.OK, 0)
	wantRead(t, get+op('X', 2, 0, 0, 9), "\xff", []int{0, 0, 255, 0, 0, 0, 0, 0}, "--------", signal.OK, 0)
}

// A mark behind a range tells whether the run came there.
func TestRunRange(t *testing.T) {
	for n := 1; n <= 32; n++ {
		all := 1 << n
		for _, c := range []struct{ signed, low, high int }{{0, 0, all - 1}, {1, -all / 2, all/2 - 1}} {
			code := op('P', 1, 0, 0, 8) + op('R', 6, 200, c.signed, n) + op('P', 2, 0, 0, 8)
			for _, value := range []int{c.low, c.high, (c.low + c.high) / 2} {
				wantFill(t, code, []int{0, 1, 2, 0, 0, 0, value}, 1, "\x02", signal.OK, 0)
			}
			for _, value := range []int{c.low - 1, c.high + 1, c.low + 1<<33, math.MinInt, math.MaxInt} {
				wantFill(t, code, []int{0, 1, 2, 0, 0, 0, value}, 1, "", signal.ErrRange, 6)
			}
		}
	}
	// The first that fails is told.
	wantFill(t, op('R', 5, 0, 0, 1)+op('R', 3, 0, 0, 1)+op('R', 4, 0, 0, 1), []int{9, 9, 9, 9, 9}, 1, "", signal.ErrRange, 3)
	wantRead(t, op('G', 4, 0, 0, 8)+op('A', 4, 0, 0, 0)+op('R', 4, 0, 0, 7), "\x80", nil, "", signal.ErrRange, 4)
	wantRead(t, op('G', 4, 0, 0, 8)+op('A', 4, 0, 0, 0)+op('R', 4, 0, 0, 7), "\x7f", []int{0, 0, 0, 0, 127, 0, 0, 0}, "----+---", signal.OK, 0)
}

func TestRunJump(t *testing.T) {
	// Marks of 1, 2 and 3 stand behind a jump over the first n of them.
	marks := op('A', 1, 0, 0, 0) + op('A', 2, 0, 0, 0) + op('A', 3, 0, 0, 0)
	for n, left := range []string{1: "--++----", 2: "---+----", 3: "--------"} {
		if n == 0 {
			continue
		}
		code := op('G', 0, 0, 0, 8) + op('J', 0, 200, 7, n) + marks
		wantRead(t, code, "\xc8", []int{200, 0, 0, 0, 0, 0, 0, 0}, "-+++----", signal.OK, 0)
		wantRead(t, code, "\xc9", []int{201, 0, 0, 0, 0, 0, 0, 0}, left, signal.OK, 0)
		wantRead(t, code, "", []int{0, 0, 0, 0, 0, 0, 0, 0}, left, signal.OK, 0)
	}
	// The register is compared as it is, not modulo anything.
	code := op('J', 0, 5, 0, 1) + op('P', 1, 0, 0, 8)
	for _, value := range []int{4, 6, -5, 5 + 256, 5 + 1<<32, 5 - 256, math.MinInt, math.MaxInt} {
		wantFill(t, code, []int{value, 77}, 1, "\x00", signal.OK, 0)
	}
	wantFill(t, code, []int{5, 77}, 1, "\x4d", signal.OK, 0)
	wantFill(t, op('J', 7, 255, 0, 1)+op('P', 1, 0, 0, 8), []int{0, 77, 0, 0, 0, 0, 0, 255}, 1, "\x4d", signal.OK, 0)
	wantFill(t, op('J', 7, 255, 0, 1)+op('P', 1, 0, 0, 8), []int{0, 77, 0, 0, 0, 0, 0, -1}, 1, "\x00", signal.OK, 0)
	// A range that is left out stops nothing; a jump that is left out leaves out nothing.
	wantFill(t, op('J', 0, 1, 0, 1)+op('R', 1, 0, 0, 1)+op('P', 1, 0, 0, 8), []int{0, 77}, 1, "\x4d", signal.OK, 0)
	wantFill(t, op('J', 0, 1, 0, 1)+op('J', 0, 1, 0, 1)+op('P', 1, 0, 0, 8), []int{0, 77}, 1, "\x4d", signal.OK, 0)
}

// P8: a run begins without marks, and goes to the code's end.
func TestRunMarks(t *testing.T) {
	zeros := make([]int, 8)
	wantRead(t, "", "", zeros, "--------", signal.OK, 0)
	wantRead(t, "", "abcdefgh", zeros, "--------", signal.OK, 0)
	all := ""
	for i := range 8 {
		all += op('A', i, 255, 255, 255)
		wantRead(t, op('A', i, 0, 0, 0), "", zeros, strings.Repeat("-", i)+"+"+strings.Repeat("-", 7-i), signal.OK, 0)
	}
	wantRead(t, all, "", zeros, "++++++++", signal.OK, 0)
	wantRead(t, all+all, "", zeros, "++++++++", signal.OK, 0)
	wantRead(t, "", "", zeros, "--------", signal.OK, 0)
	long := strings.Repeat(op('A', 0, 0, 0, 0), 95)
	wantRead(t, long+op('G', 7, 0, 0, 8), "x", []int{0, 0, 0, 0, 0, 0, 0, 'x'}, "+-------", signal.OK, 0)
}

func TestFillSizes(t *testing.T) {
	code := op('P', 0, 0, 0, 8) + op('P', 0, 56, 0, 8)
	for size := range 9 {
		wantFill(t, code, []int{'a'}, size, "a\x00\x00\x00\x00\x00\x00a"[:size], signal.OK, 0)
	}
	// Registers without a value are 0.
	for count := range 9 {
		values := []int{255, 255, 255, 255, 255, 255, 255, 255}[:count]
		all := ""
		for i := range 8 {
			all += op('P', i, 8*i, 0, 8)
		}
		wantFill(t, all, values, 8, strings.Repeat("\xff", count)+strings.Repeat("\x00", 8-count), signal.OK, 0)
	}
}

func TestFillErrorsInOrder(t *testing.T) {
	fails := op('R', 2, 0, 0, 1)
	nine := make([]int, 9)
	nine[2] = 5
	wantFill(t, strings.Repeat("B", 481), nine, 9, "", signal.ErrLong, 0)
	wantFill(t, strings.Repeat("B", 480), nine, 9, "", signal.ErrCode, 0)
	wantFill(t, fails+fails+"A", nine, 9, "", signal.ErrCode, 2)
	wantFill(t, fails+op('R', 2, 0, 2, 1), nine, 8, "", signal.ErrCode, 1)
	for _, size := range []int{-1, 9, 64, 256, math.MinInt, math.MaxInt} {
		wantFill(t, fails, nine, size, "", signal.ErrSize, 0)
		wantFill(t, fails, nil, size, "", signal.ErrSize, 0)
	}
	wantFill(t, fails, nine, 8, "", signal.ErrCount, 0)
	wantFill(t, fails, make([]int, 100000), 0, "", signal.ErrCount, 0)
	wantFill(t, fails, nine[:8], 8, "", signal.ErrRange, 2)
	wantFill(t, fails, nine[:3], 0, "", signal.ErrRange, 2)
	wantFill(t, fails, nine[:2], 0, "", signal.OK, 0)
}

func TestReadErrorsInOrder(t *testing.T) {
	fails := op('G', 2, 0, 0, 8) + op('R', 2, 0, 0, 1)
	wantRead(t, strings.Repeat("B", 481), "", nil, "", signal.ErrLong, 0)
	wantRead(t, strings.Repeat("B", 480), "", nil, "", signal.ErrCode, 0)
	wantRead(t, "B", "123456789", nil, "", signal.ErrLong, 0)
	wantRead(t, fails, "123456789", nil, "", signal.ErrLong, 0)
	wantRead(t, "", strings.Repeat("1", 1<<20), nil, "", signal.ErrLong, 0)
	wantRead(t, fails+"A", "12345678", nil, "", signal.ErrCode, 2)
	wantRead(t, fails, "12345678", nil, "", signal.ErrRange, 2)
	wantRead(t, fails, "", make([]int, 8), "--------", signal.OK, 0)
}

// Payloads of each size are read with zero bytes behind them.
func TestReadSizes(t *testing.T) {
	code := ""
	for i := range 8 {
		code += op('G', i, 8*i, 0, 8)
	}
	for size := range 9 {
		values := make([]int, 8)
		for i := range size {
			values[i] = 248 + i
		}
		wantRead(t, code, "\xf8\xf9\xfa\xfb\xfc\xfd\xfe\xff"[:size], values, "--------", signal.OK, 0)
	}
}

func randomRegister(r *rand.Rand) int {
	switch r.Intn(4) {
	case 0:
		return r.Intn(3) - 1
	case 1:
		return 1<<r.Intn(63) - r.Intn(2)
	case 2:
		return -1<<r.Intn(64) + r.Intn(2)
	}
	return int(r.Uint64())
}

func TestRunModel(t *testing.T) {
	r := rand.New(rand.NewSource(8))
	filled := map[signal.Errno]int{}
	read := map[signal.Errno]int{}
	for range 30000 {
		code := randomCode(r)
		values := make([]int, r.Intn(9))
		for i := range values {
			values[i] = randomRegister(r)
		}
		before := slices.Clone(values)
		size := r.Intn(9)
		want, err, place := modelFill(code, values, size)
		wantFill(t, code, values, size, want, err, place)
		if !slices.Equal(values, before) {
			t.Errorf("P2: Fill(%q) changed its values", code)
		}
		filled[err]++
		payload := randomBytes(r, r.Intn(9))
		registers, signs, err, place := modelReadCode(code, payload)
		wantRead(t, code, payload, registers, signs, err, place)
		read[err]++
	}
	if filled[signal.OK] < 3000 || filled[signal.ErrRange] < 1000 || read[signal.OK] < 3000 || read[signal.ErrRange] < 200 {
		t.Errorf("too few cases of a kind: %v %v", filled, read)
	}
}
