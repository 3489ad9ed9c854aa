package signal_test

import (
	"math/rand"
	"strings"
	"testing"

	"signal/signal"
)

func wantVerify(t *testing.T, code string, wantErr signal.Errno, wantPlace int) {
	t.Helper()
	err, place := signal.Verify(code)
	if err != wantErr || place != wantPlace {
		t.Errorf("P7: Verify(%.100q) = %d %d, want %d %d", code, err, place, wantErr, wantPlace)
	}
}

func wantModelVerify(t *testing.T, code string) {
	t.Helper()
	err, place := modelVerify(code)
	wantVerify(t, code, err, place)
}

// Each row of the table at its bounds and just behind them.
func TestVerifyRows(t *testing.T) {
	for _, c := range []struct {
		code string
		good bool
	}{
		{op('G', 0, 0, 0, 1), true},
		{op('G', 7, 63, 31, 1), true},
		{op('G', 7, 56, 24, 8), true},
		{op('G', 3, 60, 28, 4), true},
		{op('G', 8, 0, 0, 1), false},
		{op('G', 255, 0, 0, 1), false},
		{op('G', 0, 64, 0, 1), false},
		{op('G', 0, 255, 0, 1), false},
		{op('G', 0, 63, 0, 2), false},
		{op('G', 0, 1, 0, 8), false},
		{op('G', 0, 0, 0, 9), false},
		{op('G', 0, 0, 32, 1), false},
		{op('G', 0, 0, 25, 8), false},
		{op('G', 0, 0, 255, 1), false},
		{op('G', 0, 0, 0, 0), false},
		{op('G', 0, 0, 0, 255), false},
		{op('P', 0, 0, 0, 1), true},
		{op('P', 7, 63, 31, 1), true},
		{op('P', 7, 56, 24, 8), true},
		{op('P', 8, 0, 0, 1), false},
		{op('P', 0, 64, 0, 1), false},
		{op('P', 0, 63, 0, 2), false},
		{op('P', 0, 4, 0, 5), false},
		{op('P', 0, 0, 32, 1), false},
		{op('P', 0, 0, 30, 3), false},
		{op('P', 0, 0, 0, 0), false},
		{op('X', 7, 255, 255, 1), true},
		{op('X', 0, 0, 0, 32), true},
		{op('X', 8, 0, 0, 32), false},
		{op('X', 0, 0, 0, 33), false},
		{op('X', 0, 0, 0, 0), false},
		{op('R', 7, 255, 1, 32), true},
		{op('R', 0, 0, 0, 1), true},
		{op('R', 8, 0, 0, 1), false},
		{op('R', 0, 0, 2, 1), false},
		{op('R', 0, 0, 255, 1), false},
		{op('R', 0, 0, 1, 33), false},
		{op('R', 0, 0, 1, 0), false},
		{op('A', 7, 255, 255, 255), true},
		{op('A', 0, 0, 0, 0), true},
		{op('A', 8, 0, 0, 0), false},
		{op('A', 255, 0, 0, 1), false},
	} {
		if c.good {
			wantVerify(t, c.code, signal.OK, 0)
			wantVerify(t, c.code+c.code, signal.OK, 0)
		} else {
			wantVerify(t, c.code, signal.ErrCode, 0)
			wantVerify(t, op('A', 0, 0, 0, 0)+c.code+c.code, signal.ErrCode, 1)
		}
	}
}

func TestVerifyJumps(t *testing.T) {
	mark := op('A', 0, 0, 0, 0)
	for behind := range 95 {
		for _, n := range []int{1, behind - 1, behind, behind + 1, 255} {
			code := op('J', 7, 255, 255, n) + strings.Repeat(mark, behind)
			if n < 0 || n == 0 || n > behind {
				wantVerify(t, code, signal.ErrCode, 0)
				wantVerify(t, mark+code, signal.ErrCode, 1)
			} else {
				wantVerify(t, code, signal.OK, 0)
				wantVerify(t, mark+code, signal.OK, 0)
			}
		}
	}
	wantVerify(t, op('J', 8, 0, 0, 1)+mark, signal.ErrCode, 0)
	wantVerify(t, op('J', 0, 0, 0, 0)+mark, signal.ErrCode, 0)
	wantVerify(t, op('J', 0, 0, 0, 1)+op('J', 0, 0, 0, 1)+mark, signal.OK, 0)
	wantVerify(t, op('J', 0, 0, 0, 1)+op('J', 0, 0, 0, 1), signal.ErrCode, 1)
	// What stands behind a jump counts as an instruction even where it is a
	// wrong one, and is then itself the first wrong one.
	wantVerify(t, op('J', 0, 0, 0, 1)+"BBBBB", signal.ErrCode, 1)
	wantVerify(t, op('J', 0, 0, 0, 1)+"A", signal.ErrCode, 1)
	wantVerify(t, op('J', 0, 0, 0, 2)+"A", signal.ErrCode, 0)
}

// Of all bytes, six are ops.
func TestVerifyOps(t *testing.T) {
	for letter := range 256 {
		code := op(byte(letter), 0, 0, 0, 1) + op('A', 0, 0, 0, 0)
		if strings.IndexByte("GPXRJA", byte(letter)) >= 0 {
			wantVerify(t, code, signal.OK, 0)
		} else {
			wantVerify(t, code, signal.ErrCode, 0)
		}
	}
}

func TestVerifyWholeInstructions(t *testing.T) {
	mark := op('A', 0, 0, 0, 0)
	wantVerify(t, "", signal.OK, 0)
	for count := range 96 {
		for rest := 1; rest < 5; rest++ {
			wantVerify(t, strings.Repeat(mark, count)+mark[:rest], signal.ErrCode, count)
		}
	}
	wantVerify(t, "BBBBB"+mark[:4], signal.ErrCode, 0)
}

func TestVerifyLong(t *testing.T) {
	wantVerify(t, strings.Repeat("A\x00\x00\x00\x00", 96), signal.OK, 0)
	wantVerify(t, strings.Repeat("A\x00\x00\x00\x00", 97), signal.ErrLong, 0)
	wantVerify(t, strings.Repeat("A\x00\x00\x00\x00", 96)+"A", signal.ErrLong, 0)
	wantVerify(t, strings.Repeat("B", 480), signal.ErrCode, 0)
	wantVerify(t, strings.Repeat("B", 481), signal.ErrLong, 0)
}

// All numbers of each row, two at a time, beside some of the third.
func TestVerifyModel(t *testing.T) {
	few := []int{0, 24, 25, 31, 56, 63, 64, 255}
	tail := strings.Repeat(op('A', 0, 0, 0, 0), 3)
	for _, letter := range []byte("GPXRJA") {
		for x := range 256 {
			for y := range 256 {
				for _, z := range few {
					wantModelVerify(t, op(letter, 0, x, z, y)+tail)
					wantModelVerify(t, op(letter, 7, z, x, y)+tail)
				}
			}
			for _, y := range few {
				wantModelVerify(t, op(letter, x, y, 0, 1)+tail)
				wantModelVerify(t, op(letter, x, 0, 1, y)+tail)
			}
			if t.Failed() {
				return
			}
		}
	}
}

func TestVerifyRandom(t *testing.T) {
	r := rand.New(rand.NewSource(7))
	seen := map[signal.Errno]int{}
	for range 20000 {
		code := []byte(randomCode(r))
		if len(code) > 0 && r.Intn(2) == 0 {
			code[r.Intn(len(code))] = byte(r.Intn(256))
		}
		if r.Intn(10) == 0 {
			code = code[:r.Intn(len(code)+1)]
		}
		err, place := modelVerify(string(code))
		wantVerify(t, string(code), err, place)
		seen[err]++
	}
	if seen[signal.OK] < 2000 || seen[signal.ErrCode] < 2000 {
		t.Errorf("too few cases of a kind: %v", seen)
	}
}
