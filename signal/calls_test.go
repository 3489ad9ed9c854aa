package signal_test

import (
	"fmt"
	"math"
	"math/rand"
	"slices"
	"strings"
	"testing"

	"signal/signal"
)

// The calls, by the signatures that the document gives them.
var (
	_ func(string) (signal.Errno, int)                                = signal.Check
	_ func(string, string, []int) (string, signal.Errno, int)         = signal.Pack
	_ func(string, string, string) ([]int, string, signal.Errno, int) = signal.Unpack
	_ func(string) (signal.Errno, int)                                = signal.Verify
	_ func(string, []int, int) (string, signal.Errno, int)            = signal.Fill
	_ func(string, string) ([]int, string, signal.Errno, int)         = signal.Read
	_ func(string, string) (string, string, signal.Errno, int)        = signal.Compile
	_ func(string, string) (string, signal.Errno)                     = signal.Frame
	_ func(string) (string, string, signal.Errno)                     = signal.Deframe
	_ func(string, string, []int) (string, signal.Errno, int)         = signal.Send
	_ func(string, string) (string, []int, string, signal.Errno, int) = signal.Receive
)

func TestErrnoNumbers(t *testing.T) {
	names := []signal.Errno{
		signal.OK, signal.ErrLong, signal.ErrText, signal.ErrTwice, signal.ErrMux, signal.ErrFit, signal.ErrShare,
		signal.ErrId, signal.ErrCount, signal.ErrRange, signal.ErrSize, signal.ErrCode, signal.ErrForm,
	}
	for number, name := range names {
		if int(name) != number {
			t.Errorf("the constant at %d is %d", number, name)
		}
	}
}

// strangeTexts are near databases and far from them.
func strangeTexts(r *rand.Rand) []string {
	texts := []string{"", ";", ",", "\x00", "\xff\xfe", "é", muxed, mixed, late, minus, full, full + full,
		strings.Repeat(",a0001<u-", 35), strings.Repeat("0000;", 64), strings.Repeat("\xff", 320)}
	for range 300 {
		text := []byte(randomText(r, true))
		for range r.Intn(3) {
			text[r.Intn(len(text))] = byte(r.Intn(256))
		}
		texts = append(texts, string(text[:r.Intn(len(text)+1)]), string(text), randomBytes(r, r.Intn(400)))
	}
	return texts
}

// P1: the calls end at all arguments, and answer nothing beside an error.
func TestStrangeArguments(t *testing.T) {
	r := rand.New(rand.NewSource(1))
	ids := []string{"", "0", "000", "1A0", "7FF", "8FF", "\xff\xff\xff", strings.Repeat("0", 5000)}
	lists := [][]int{nil, {}, {0}, {math.MinInt}, {math.MaxInt, math.MinInt}, {0, 0, 0}, {math.MinInt, 1, math.MaxInt}, make([]int, 8), make([]int, 70000)}
	payloads := []string{"", "\x00", "\xff\xff", "abc", "12345678", "123456789", strings.Repeat("\xff", 5000)}
	for _, id := range ids {
		for _, payload := range payloads {
			want, err := modelFrame(id, payload)
			wantFrame(t, id, payload, want, err)
		}
	}
	rows := strangeBits(r)
	for _, bits := range rows {
		id, payload, err := modelDeframe(bits)
		wantDeframe(t, bits, id, payload, err)
	}
	for _, text := range strangeTexts(r) {
		wantModelCheck(t, text)
		for range 4 {
			wantQuietReceive(t, text, rows[r.Intn(len(rows))])
		}
		for _, id := range ids {
			for _, values := range lists {
				wantQuietPack(t, text, id, values)
				wantQuietSend(t, text, id, values)
			}
			for _, payload := range payloads {
				wantQuietUnpack(t, text, id, payload)
			}
			wantQuietCompile(t, text, id)
		}
	}
	for _, code := range strangeCodes(r) {
		wantModelVerify(t, code)
		for _, values := range lists {
			for _, size := range []int{0, 1, 8, 9, -1, math.MaxInt, math.MinInt} {
				wantQuietFill(t, code, values, size)
			}
		}
		for _, payload := range payloads {
			wantQuietRead(t, code, payload)
		}
	}
}

// strangeCodes are near code and far from it.
func strangeCodes(r *rand.Rand) []string {
	codes := []string{"", "A", "\x00", "\xff\xff\xff\xff\xff", muxed, strings.Repeat("\xff", 480), strings.Repeat("A", 481),
		strings.Repeat(op('J', 0, 0, 0, 255), 96), strings.Repeat(op('J', 0, 1, 0, 1), 95) + op('A', 0, 0, 0, 0)}
	for range 300 {
		code := []byte(randomCode(r) + op('A', 0, 0, 0, 0))
		codes = append(codes, string(code), string(code[:r.Intn(len(code))]))
		code[r.Intn(len(code))] = byte(r.Intn(256))
		codes = append(codes, string(code), randomBytes(r, r.Intn(600)))
	}
	return codes
}

// strangeBits are near frames and far from them.
func strangeBits(r *rand.Rand) []string {
	rows := []string{"", "0", "1", "x", "\x00", "é", muxed, tenOnes, "0" + tenOnes, strings.Repeat("0", 160), strings.Repeat("1", 160),
		strings.Repeat("000001", 26), strings.Repeat("01", 80), strings.Repeat("\xff", 160), strings.Repeat("0", 161), strings.Repeat("\xff", 70000)}
	for range 300 {
		id, payload := fmt.Sprintf("%03X", r.Intn(2048)), randomPayload(r, r.Intn(9))
		if r.Intn(2) == 0 {
			id = "1A0"
		}
		good, _ := modelFrame(id, payload)
		bits := []byte(good)
		bits[r.Intn(len(bits))] = byte(r.Intn(256))
		rows = append(rows, good, string(bits), good[:r.Intn(len(good))], good+good, randomBytes(r, r.Intn(200)), modelStuff(randomRow(r)))
	}
	return rows
}

// randomRow answers a row of bits, most of them as the one ahead.
func randomRow(r *rand.Rand) string {
	row := []byte{'0'}
	for range r.Intn(110) {
		bit := row[len(row)-1]
		if r.Intn(3) == 0 {
			bit = '0' + '1' - bit
		}
		row = append(row, bit)
	}
	return string(row)
}

func wantQuietSend(t *testing.T, text string, id string, values []int) {
	t.Helper()
	want, wantErr, wantPlace := modelSend(text, id, values)
	wantSend(t, text, id, values, want, wantErr, wantPlace)
	if bits, err, _ := signal.Send(text, id, values); err != signal.OK && bits != "" {
		t.Errorf("P1: Send(%q) answers %q beside the error %d", text, bits, err)
	}
}

func wantQuietReceive(t *testing.T, text string, bits string) {
	t.Helper()
	wantId, want, wantSigns, wantErr, wantPlace := modelReceive(text, bits)
	wantReceive(t, text, bits, wantId, want, wantSigns, wantErr, wantPlace)
	id, values, signs, err, _ := signal.Receive(text, bits)
	if err != signal.OK && (id != "" || len(values) > 0 || signs != "") {
		t.Errorf("P1: Receive(%q, %q) answers %q %v %q beside the error %d", text, bits, id, values, signs, err)
	}
}

func wantQuietPack(t *testing.T, text string, id string, values []int) {
	t.Helper()
	payload, err, place := signal.Pack(text, id, values)
	want, wantErr, wantPlace := modelPack(text, id, values)
	if payload != want || err != wantErr || place != wantPlace {
		t.Errorf("P1: Pack(%q, %.9q, %d values) = %q %d %d, want %q %d %d", text, id, len(values), payload, err, place, want, wantErr, wantPlace)
	}
	if err != signal.OK && payload != "" {
		t.Errorf("P1: Pack(%q) answers %q beside the error %d", text, payload, err)
	}
}

func wantQuietUnpack(t *testing.T, text string, id string, payload string) {
	t.Helper()
	values, signs, err, place := signal.Unpack(text, id, payload)
	want, wantSigns, wantErr, wantPlace := modelUnpack(text, id, payload)
	if !slices.Equal(values, want) || signs != wantSigns || err != wantErr || place != wantPlace {
		t.Errorf("P1: Unpack(%q, %.9q, %.9q) = %v %q %d %d, want %v %q %d %d",
			text, id, payload, values, signs, err, place, want, wantSigns, wantErr, wantPlace)
	}
	if err != signal.OK && (len(values) > 0 || signs != "") {
		t.Errorf("P1: Unpack(%q) answers %v %q beside the error %d", text, values, signs, err)
	}
}

func wantQuietCompile(t *testing.T, text string, id string) {
	t.Helper()
	pack, unpack, err, place := signal.Compile(text, id)
	wantErr, wantPlace := modelCheck(text)
	if wantErr == signal.OK {
		if _, found := modelFind(text, id); !found {
			wantErr = signal.ErrId
		}
	}
	if err != wantErr || place != wantPlace {
		t.Errorf("P1: Compile(%q, %.9q) = %q %q %d %d, want %d %d", text, id, pack, unpack, err, place, wantErr, wantPlace)
	}
	if err != signal.OK && (pack != "" || unpack != "") {
		t.Errorf("P1: Compile(%q) answers %q %q beside the error %d", text, pack, unpack, err)
	}
}

func wantQuietFill(t *testing.T, code string, values []int, size int) {
	t.Helper()
	want, wantErr, wantPlace := modelFill(code, values, size)
	wantFill(t, code, values, size, want, wantErr, wantPlace)
	if payload, err, _ := signal.Fill(code, values, size); err != signal.OK && payload != "" {
		t.Errorf("P1: Fill(%q) answers %q beside the error %d", code, payload, err)
	}
}

func wantQuietRead(t *testing.T, code string, payload string) {
	t.Helper()
	want, wantSigns, wantErr, wantPlace := modelReadCode(code, payload)
	wantRead(t, code, payload, want, wantSigns, wantErr, wantPlace)
	if values, signs, err, _ := signal.Read(code, payload); err != signal.OK && (len(values) > 0 || signs != "") {
		t.Errorf("P1: Read(%q) answers %v %q beside the error %d", code, values, signs, err)
	}
}

// P1: a string that is too long is told ahead of all that is wrong with it and
// with the other arguments.
func TestLongAheadOfAll(t *testing.T) {
	for _, long := range []string{strings.Repeat("0000;", 65), strings.Repeat("\xff", 321), full + full, strings.Repeat("0", 1<<26)} {
		wantCheck(t, long, signal.ErrLong, 0)
		wantPack(t, long, long, nil, "", signal.ErrLong, 0)
		wantUnpack(t, long, "1A0", "ab", nil, "", signal.ErrLong, 0)
		wantUnpack(t, long, long, long, nil, "", signal.ErrLong, 0)
		wantUnpack(t, muxed, "1A0", long, nil, "", signal.ErrLong, 0)
		wantUnpack(t, "x", "x", long, nil, "", signal.ErrLong, 0)
		// An id has no bound of its own.
		wantPack(t, muxed, long, nil, "", signal.ErrId, 0)
		wantUnpack(t, muxed, long, "ab", nil, "", signal.ErrId, 0)
		wantNoCode(t, long, long, signal.ErrLong, 0)
		wantNoCode(t, muxed, long, signal.ErrId, 0)
		wantRead(t, "", long, nil, "", signal.ErrLong, 0)
		wantRead(t, "B", long, nil, "", signal.ErrLong, 0)
		wantFrame(t, "000", long, "", signal.ErrLong)
		wantFrame(t, long, long, "", signal.ErrLong)
		wantFrame(t, long, "", "", signal.ErrId)
		wantDeframe(t, long, "", "", signal.ErrLong)
		wantSend(t, long, long, nil, "", signal.ErrLong, 0)
		wantSend(t, muxed, long, nil, "", signal.ErrId, 0)
		wantReceive(t, long, long, "", nil, "", signal.ErrLong, 0)
		wantReceive(t, long, "", "", nil, "", signal.ErrLong, 0)
		wantReceive(t, muxed, long, "", nil, "", signal.ErrLong, 0)
		wantReceive(t, "", long, "", nil, "", signal.ErrLong, 0)
	}
	for _, long := range []string{strings.Repeat("A", 481), strings.Repeat(op('A', 0, 0, 0, 0), 97), strings.Repeat("\xff", 1<<26)} {
		wantVerify(t, long, signal.ErrLong, 0)
		wantFill(t, long, make([]int, 9), 9, "", signal.ErrLong, 0)
		wantRead(t, long, "", nil, "", signal.ErrLong, 0)
		wantRead(t, long, long, nil, "", signal.ErrLong, 0)
	}
}

func answers(text string, id string, values []int, payload string) string {
	err, place := signal.Check(text)
	packed, packErr, packPlace := signal.Pack(text, id, values)
	held, signs, heldErr, heldPlace := signal.Unpack(text, id, payload)
	pack, unpack, codeErr, codePlace := signal.Compile(text, id)
	passed, passedPlace := signal.Verify(unpack)
	filled, filledErr, filledPlace := signal.Fill(pack, values, len(payload))
	registers, marks, readErr, readPlace := signal.Read(unpack, payload)
	framed, framedErr := signal.Frame(id, payload)
	partId, part, partErr := signal.Deframe(framed)
	sent, sentErr, sentPlace := signal.Send(text, id, values)
	fromId, from, fromSigns, fromErr, fromPlace := signal.Receive(text, framed)
	answer := fmt.Sprint(err, place, []byte(packed), packErr, packPlace, held, signs, heldErr, heldPlace,
		[]byte(pack), []byte(unpack), codeErr, codePlace, passed, passedPlace,
		[]byte(filled), filledErr, filledPlace, registers, marks, readErr, readPlace,
		framed, framedErr, partId, []byte(part), partErr, sent, sentErr, sentPlace, fromId, from, fromSigns, fromErr, fromPlace)
	for i := range held {
		held[i] = -99
	}
	for i := range registers {
		registers[i] = -99
	}
	for i := range from {
		from[i] = -99
	}
	return answer
}

// P2: the same arguments get the same answers whatever was asked in between,
// even where the caller wrote into an earlier answer.
func TestNothingIsKept(t *testing.T) {
	cases := []struct {
		text    string
		id      string
		values  []int
		payload string
	}{
		{muxed, "1A0", []int{1, 2, 3}, "\x01\x02"},
		{muxed, "1A0", []int{0, 2, 3}, "\x00\x02"},
		{mixed, "000", []int{-1, 1}, "12345678"},
		{mixed, "7FF", []int{300}, "x"},
		{late, "020", []int{1, 1, 1}, "\x01\x01"},
		{"", "", nil, ""},
		{full + full, "000", nil, "123456789"},
	}
	first := []string{}
	for _, c := range cases {
		first = append(first, answers(c.text, c.id, c.values, c.payload))
	}
	for i := range cases {
		for j := range cases {
			answers(cases[i].text, cases[i].id, cases[i].values, cases[i].payload)
			before := slices.Clone(cases[j].values)
			if got := answers(cases[j].text, cases[j].id, cases[j].values, cases[j].payload); got != first[j] {
				t.Errorf("P2: behind case %d, case %d answers %s, at first %s", i, j, got, first[j])
			}
			if !slices.Equal(before, cases[j].values) {
				t.Errorf("P2: the values of case %d were changed", j)
			}
		}
	}
}
