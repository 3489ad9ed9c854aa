package signal_test

import (
	"math/rand"
	"strings"
	"testing"

	"signal/signal"
)

// full is the longest database: all the messages, all the signals.
var full = strings.Join([]string{
	"0008,a0008<u-,b1508>s-,c1608<u-,d3108>s-,e3208<u-,f4708>s-,g4808<u-,h6308>s-",
	"7FF8,a0008<u-,b1508>s-,c1608<u-,d3108>s-,e3208<u-,f4708>s-,g4808<u-,h6308>s-",
	"1A08,m0004<uM,b0808<u0,c0808>u1,d0801<s2,e0901<s2,f0832<u9,z4001<u-,y6301>s0",
	"0F01,a0001<u-,b0101<u-,c0201<u-,d0301<u-,e0401<u-,f0501<u-,g0601<u-,h0701<u-",
}, ";")

func wantCheck(t *testing.T, text string, wantErr signal.Errno, wantPlace int) {
	t.Helper()
	if err, place := signal.Check(text); err != wantErr || place != wantPlace {
		t.Errorf("Check(%.330q) = %d %d, want %d %d", text, err, place, wantErr, wantPlace)
	}
}

func wantModelCheck(t *testing.T, text string) {
	t.Helper()
	err, place := modelCheck(text)
	wantCheck(t, text, err, place)
}

func TestCheckSound(t *testing.T) {
	for _, text := range []string{
		full,
		"0000", "7FF8", "0000;0010;0020;0030",
		"0008,a6301<u-", "0008,a3232<u-", "0008,a0032<s-", "0008,a3932>u-",
		"1A02,m0004<uM,a0804<u0,b1508>s1",
		"0001,a0001<u0,m0101<uM",
		"0001,a0001<sM,b0101<u0,c0101<u1",
		"0001,a0001<u-;0011,a0001<u-",
		"0002,a0010<u-", "0002,a0001>u-,b1508>u-",
		"0002,a0002>u-", // places 0 and 15
	} {
		wantCheck(t, text, signal.OK, 0)
	}
}

func TestCheckLong(t *testing.T) {
	wantCheck(t, strings.Repeat("0", 320), signal.ErrText, 4)
	wantCheck(t, strings.Repeat("0", 321), signal.ErrLong, 0)
	wantCheck(t, full+strings.Repeat(";", 320-len(full)), signal.ErrText, len(full))
	wantCheck(t, full+strings.Repeat(";", 321-len(full)), signal.ErrLong, 0)
}

func TestCheckText(t *testing.T) {
	for _, c := range []struct {
		text  string
		place int
	}{
		{"", 0}, {"0", 1}, {"00", 2}, {"000", 3}, {"0000;", 5}, {"0000,", 5},
		{"8000", 0}, {"A000", 0}, {"0G00", 1}, {"0a00", 1}, {"00@0", 2}, {"00:0", 2}, {"0009", 3}, {"000A", 3},
		{"0000 ", 4}, {"00000", 4}, {"0000;;", 5}, {"0000,;", 5}, {";0000", 0},
		{"0008,A", 5}, {"0008,`", 5}, {"0008,{", 5}, {"0008,a", 6},
		{"0008,a7", 6}, {"0008,a6", 7}, {"0008,a64", 7}, {"0008,a63", 8}, {"0008,a5:", 7},
		{"0008,a0000", 9}, {"0008,a0033", 9}, {"0008,a004", 8}, {"0008,a003", 9}, {"0008,a0032", 10},
		{"0008,a0001=", 10}, {"0008,a0001<U", 11}, {"0008,a0001<um", 12}, {"0008,a0001<u:", 12}, {"0008,a0001<u/", 12},
		{"0008,a0001<u-a", 13}, {"0008,a0001<u-;", 14}, {"0008,a0001<u-,", 14},
		{"0000;0010;0020;0030;", 19}, {"0000;0010;0020;0030;0040", 19}, {"0000;0010;0020;0030,", 20},
		{full + ",", len(full)}, {full + ";", len(full)}, {full[:76] + ",i", 76}, {full[:76] + ";", 77},
		{"0000\n", 4}, {"000\xff", 3}, {"0000;\x00", 5},
	} {
		wantCheck(t, c.text, signal.ErrText, c.place)
	}
}

// Where the text is no database, no other error is told, wherever it stands.
func TestCheckTextAheadOfRules(t *testing.T) {
	wantCheck(t, "0000;0000;", signal.ErrText, 10)
	wantCheck(t, "0000,a0001<u0,a0001<u0;x", signal.ErrText, 23)
}

func TestCheckEveryByte(t *testing.T) {
	for _, text := range []string{full, "1A02,m0004<uM,a6304<u0,b1532>s1;0010"} {
		for i := 0; i <= len(text); i++ {
			wantModelCheck(t, text[:i])
			tail := text[min(i+1, len(text)):]
			for _, c := range []byte("/09:678@AFG`azm{M-,;<=>us\x00\xff") {
				wantModelCheck(t, text[:i]+string([]byte{c})+tail)
			}
		}
	}
	for i := range 15 {
		for c := range 256 {
			wantModelCheck(t, "0008,a6330<u-;0010"[:i]+string([]byte{byte(c)}))
		}
	}
}

func TestCheckNumbers(t *testing.T) {
	for start := range 100 {
		for length := range 100 {
			number := string([]byte{byte('0' + start/10), byte('0' + start%10), byte('0' + length/10), byte('0' + length%10)})
			wantModelCheck(t, "0008,a"+number+"<u-")
			wantModelCheck(t, "0005,a"+number+">s-")
		}
	}
}

func TestCheckRules(t *testing.T) {
	for _, c := range []struct {
		text  string
		err   signal.Errno
		place int
	}{
		{"0000;0010;0000", signal.ErrTwice, 10},
		{"0000;0018;0000", signal.ErrTwice, 10},
		{"0000;0008", signal.ErrTwice, 5},
		{"0001,a0001<u-,b0101<u-,a0201<u-", signal.ErrTwice, 23},
		{"0001,a0001<uM,b0101<u-,c0201<uM", signal.ErrMux, 23},
		{"0001,a0001<u-,b0101<u9", signal.ErrMux, 14},
		{"0001,m0001<uM;0011,a0001<u0", signal.ErrMux, 19}, // a multiplexor of another message
		{"0000,a0001<u-", signal.ErrFit, 5},
		{"0001,a0009<u-", signal.ErrFit, 5},
		{"0001,a0002>u-", signal.ErrFit, 5}, // places 0 and 15
		{"0008,a6302<u-", signal.ErrFit, 5},
		{"0008,a3232<u-,b5602>u-", signal.ErrFit, 14}, // places 56 and 71
		{"0002,a0008<u-,b0701<s-", signal.ErrShare, 14},
		{"0002,a0010>u-", signal.ErrFit, 5},
		{"0003,a0010>u-,b1501<u-", signal.ErrShare, 14},
		{"0003,a0010>u-,b2301<u-", signal.ErrShare, 14},
		{"0003,a0010>u-,b2201<u-", signal.OK, 0},
		{"0001,m0002<uM,a0101<u0", signal.ErrShare, 14},
		{"0001,m0001<uM,a0101<u-,b0101<u0", signal.ErrShare, 23},
		{"0001,m0001<uM,a0101<u0,b0101<u-", signal.ErrShare, 23},
		{"0001,m0001<uM,a0101<u3,b0101<u4,c0101<u3", signal.ErrShare, 32},
	} {
		wantCheck(t, c.text, c.err, c.place)
	}
}

// Of one signal the error named first is told; of several signals and messages,
// that of the first in the text.
func TestCheckOrder(t *testing.T) {
	for _, c := range []struct {
		text  string
		err   signal.Errno
		place int
	}{
		{"0001,a0001<uM,a0009<uM", signal.ErrTwice, 14},
		{"0001,a0001<uM,b0009<uM", signal.ErrMux, 14},
		{"0001,a0001<u-,b0009<u0", signal.ErrMux, 14},
		{"0001,a0001<u-,b0009<u-", signal.ErrFit, 14},
		{"0001,a0009<u-,a0001<u0", signal.ErrFit, 5},
		{"0001,a0001<u-,b0001<u-,a0001<u-", signal.ErrShare, 14},
		{"0001,a0009<u-;0001", signal.ErrFit, 5},
		{"0000;0000,a0001<u0", signal.ErrTwice, 5},
		{"0000;0010,a0001<u0;0000", signal.ErrMux, 10},
	} {
		wantCheck(t, c.text, c.err, c.place)
	}
}

func TestCheckModel(t *testing.T) {
	r := rand.New(rand.NewSource(3))
	seen := map[signal.Errno]int{}
	for range 6000 {
		text := randomText(r, r.Intn(2) == 0)
		wantModelCheck(t, text)
		err, _ := modelCheck(text)
		seen[err]++
	}
	for _, err := range []signal.Errno{signal.OK, signal.ErrTwice, signal.ErrMux, signal.ErrFit, signal.ErrShare} {
		if seen[err] < 20 {
			t.Errorf("only %d texts with the error %d", seen[err], err)
		}
	}
}
