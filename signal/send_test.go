package signal_test

import (
	"fmt"
	"math"
	"math/rand"
	"slices"
	"strings"
	"testing"

	"signal/signal"
)

func wantSend(t *testing.T, text string, id string, values []int, want string, wantErr signal.Errno, wantPlace int) {
	t.Helper()
	bits, err, place := signal.Send(text, id, values)
	if bits != want || err != wantErr || place != wantPlace {
		t.Errorf("P14: Send(%.330q, %.20q, %.80s) = %q %d %d, want %q %d %d",
			text, id, fmt.Sprint(values), bits, err, place, want, wantErr, wantPlace)
	}
}

func TestSendFrames(t *testing.T) {
	for _, c := range []struct {
		text    string
		id      string
		values  []int
		payload string
	}{
		{muxed, "1A0", []int{0, 5, 0}, "\x00\x05"},
		{muxed, "1A0", []int{1, 5, -2}, "\x01\xfe"},
		{muxed, "1A0", []int{15, math.MaxInt, math.MinInt}, "\x0f\x00"},
		{mixed, "000", []int{-2, 0x12345678}, "\xfe\xff\xff\xff\x12\x34\x56\x78"},
		{mixed, "7FF", []int{255}, "\xff"},
		{mixed, "010", nil, ""},
		{late, "020", []int{8, 8, 0}, "\x00\x00"},
		{minus, "030", []int{0, 1, 7}, "\x02"},
	} {
		wantSend(t, c.text, c.id, c.values, frame(t, c.id, c.payload), signal.OK, 0)
	}
	wantSend(t, "7FF0", "7FF", nil, written("0 11111[0]11111[0]1 000 00[1]00 010011100101111 1111111111"), signal.OK, 0)
}

// The errors of Pack, each with its place and ahead of those behind it.
func TestSendErrorsInOrder(t *testing.T) {
	wantSend(t, strings.Repeat("x", 321), "x", nil, "", signal.ErrLong, 0)
	wantSend(t, strings.Repeat("x", 320), "x", nil, "", signal.ErrText, 0)
	wantSend(t, "000", "x", nil, "", signal.ErrText, 3)
	wantSend(t, "0000;0000", "x", nil, "", signal.ErrTwice, 5)
	wantSend(t, "0001,a0001<u-,a0001<u-", "000", []int{0, 0}, "", signal.ErrTwice, 14)
	wantSend(t, "0001,a0001<u0", "x", nil, "", signal.ErrMux, 5)
	wantSend(t, "0001,a0009<u-", "000", []int{0}, "", signal.ErrFit, 5)
	wantSend(t, "0000;0011,a0001<u-,b0001<u-", "000", nil, "", signal.ErrShare, 19)
	for _, id := range []string{"", "1A", "1A1", "1a0", "1A00", "9A0", strings.Repeat("1A0", 1000)} {
		wantSend(t, muxed, id, []int{99}, "", signal.ErrId, 0)
	}
	for _, values := range [][]int{nil, {}, {99}, {99, 99}, {99, 99, 99, 99}, make([]int, 100000)} {
		wantSend(t, muxed, "1A0", values, "", signal.ErrCount, 0)
	}
	wantSend(t, muxed, "1A0", []int{16, 16, 128}, "", signal.ErrRange, 0)
	wantSend(t, muxed, "1A0", []int{0, 16, 128}, "", signal.ErrRange, 1)
	wantSend(t, muxed, "1A0", []int{1, 16, 128}, "", signal.ErrRange, 2)
	wantSend(t, late, "020", []int{7, 0, 5}, "", signal.ErrRange, 2)
}

func wantReceive(t *testing.T, text string, bits string, wantId string, want []int, wantSigns string, wantErr signal.Errno, wantPlace int) {
	t.Helper()
	id, values, signs, err, place := signal.Receive(text, bits)
	if id != wantId || !slices.Equal(values, want) || signs != wantSigns || err != wantErr || place != wantPlace {
		t.Errorf("P15: Receive(%.330q, %.170q) = %q %v %q %d %d, want %q %v %q %d %d",
			text, bits, id, values, signs, err, place, wantId, want, wantSigns, wantErr, wantPlace)
	}
}

func TestReceiveValues(t *testing.T) {
	for _, c := range []struct {
		text    string
		id      string
		payload string
		want    []int
		signs   string
	}{
		{muxed, "1A0", "\x00\xff", []int{0, 15, 0}, "++-"},
		{muxed, "1A0", "\xf1\xff", []int{1, 0, -1}, "+-+"},
		{muxed, "1A0", "\x02\xff", []int{2, 0, 0}, "+--"},
		{mixed, "000", "\xfe\xff\xff\xff\x12\x34\x56\x78", []int{-2, 0x12345678}, "++"},
		{mixed, "7FF", "\x80", []int{128}, "+"},
		{mixed, "010", "", nil, ""},
		{late, "020", "\x06\x01", []int{0, 6, 1}, "-++"},
		{minus, "030", "\x03", []int{-1, 0, 0}, "+--"},
		{"0003", "000", "abc", nil, ""},
	} {
		wantReceive(t, c.text, frame(t, c.id, c.payload), c.id, c.want, c.signs, signal.OK, 0)
	}
}

func TestReceiveErrorsInOrder(t *testing.T) {
	good := frame(t, "1A0", "ab")
	noFrame := good[1:]
	long := strings.Repeat("0", 161)
	// ErrLong of either argument.
	for _, bits := range []string{good, noFrame, "", long} {
		wantReceive(t, strings.Repeat("x", 321), bits, "", nil, "", signal.ErrLong, 0)
		wantReceive(t, full+full, bits, "", nil, "", signal.ErrLong, 0)
	}
	for _, text := range []string{muxed, "", "000", "0001,a0009<u-"} {
		wantReceive(t, text, long, "", nil, "", signal.ErrLong, 0)
		wantReceive(t, text, good+strings.Repeat("1", 161-len(good)), "", nil, "", signal.ErrLong, 0)
		wantReceive(t, text, strings.Repeat("0", 1<<20), "", nil, "", signal.ErrLong, 0)
	}
	// The errors of Check.
	for _, bits := range []string{good, noFrame, "", strings.Repeat("0", 160)} {
		wantReceive(t, strings.Repeat("x", 320), bits, "", nil, "", signal.ErrText, 0)
		wantReceive(t, muxed+";", bits, "", nil, "", signal.ErrText, len(muxed)+1)
		wantReceive(t, muxed+";1A02", bits, "", nil, "", signal.ErrTwice, len(muxed)+1)
		wantReceive(t, "1A02,a0001<u-,a0101<u-", bits, "", nil, "", signal.ErrTwice, 14)
		wantReceive(t, "1A02,a0001<u0", bits, "", nil, "", signal.ErrMux, 5)
		wantReceive(t, "1A02,a0017<u-", bits, "", nil, "", signal.ErrFit, 5)
		wantReceive(t, "1A02,a0001<u-,b0001<u-", bits, "", nil, "", signal.ErrShare, 14)
	}
	// ErrForm, whatever the database.
	for _, text := range []string{muxed, mixed, "0000"} {
		for _, bits := range []string{"", noFrame, good + "1", good[:len(good)-1], strings.Repeat("0", 160), "2" + good[1:],
			sealed(modelHead("1A0", 9, "123456789")), sealed(modelHead("1A0", 2, "a"))} {
			wantReceive(t, text, bits, "", nil, "", signal.ErrForm, 0)
		}
	}
	// ErrId ahead of ErrSize.
	for size := range 9 {
		payload := "12345678"[:size]
		wantReceive(t, mixed, frame(t, "1A0", payload), "", nil, "", signal.ErrId, 0)
		wantReceive(t, muxed, frame(t, "1A1", payload), "", nil, "", signal.ErrId, 0)
		wantReceive(t, muxed, frame(t, "000", payload), "", nil, "", signal.ErrId, 0)
		if size != 2 {
			wantReceive(t, muxed, frame(t, "1A0", payload), "", nil, "", signal.ErrSize, 0)
			wantReceive(t, mixed+";1A02", frame(t, "1A0", payload), "", nil, "", signal.ErrSize, 0)
		}
	}
}

func TestSendAndReceiveModel(t *testing.T) {
	r := rand.New(rand.NewSource(16))
	sent, received := map[signal.Errno]int{}, map[signal.Errno]int{}
	for range 800 {
		text, m := soundText(r)
		for range 4 {
			values := []int{}
			for _, s := range m.signals {
				values = append(values, randomValue(r, s))
			}
			if len(values) > 0 && r.Intn(3) == 0 {
				values[r.Intn(len(values))] = r.Intn(1<<34) - 1<<33
			}
			before := slices.Clone(values)
			bits, err, place := modelSend(text, m.id, values)
			wantSend(t, text, m.id, values, bits, err, place)
			if !slices.Equal(values, before) {
				t.Errorf("P2: Send(%q) changed its values", text)
			}
			sent[err]++

			bits = frame(t, m.id, randomPayload(r, m.size))
			switch r.Intn(4) {
			case 0:
				bits = frame(t, m.id, randomPayload(r, r.Intn(9)))
			case 1:
				bits = frame(t, fmt.Sprintf("%03X", r.Intn(2048)), randomPayload(r, m.size))
			case 2:
				i := r.Intn(len(bits))
				bits = bits[:i] + string('0'+'1'-bits[i]) + bits[i+1:]
			}
			id, held, signs, err, place := modelReceive(text, bits)
			wantReceive(t, text, bits, id, held, signs, err, place)
			received[err]++
		}
		if t.Failed() {
			return
		}
	}
	if sent[signal.OK] < 1000 || sent[signal.ErrRange] < 500 {
		t.Errorf("too few sent of a kind: %v", sent)
	}
	if received[signal.OK] < 500 || received[signal.ErrForm] < 500 || received[signal.ErrId] < 500 || received[signal.ErrSize] < 500 {
		t.Errorf("too few received of a kind: %v", received)
	}
}

// What is received of what was sent are the id and the values of the active
// signals.
func TestSentAndReceived(t *testing.T) {
	r := rand.New(rand.NewSource(17))
	resting := 0
	for range 1500 {
		text, m := soundText(r)
		values := []int{}
		for _, s := range m.signals {
			values = append(values, randomValue(r, s))
		}
		bits, err, place := signal.Send(text, m.id, values)
		if err != signal.OK {
			t.Fatalf("P14: Send(%q, %v) = %q %d %d", text, values, bits, err, place)
		}
		signs := ""
		for i, active := range modelActive(m, values) {
			if active {
				signs += "+"
			} else {
				signs += "-"
				values[i] = 0
				resting++
			}
		}
		wantReceive(t, text, bits, m.id, values, signs, signal.OK, 0)
		if t.Failed() {
			return
		}
	}
	if resting < 500 {
		t.Errorf("only %d signals were not active", resting)
	}
}
