package signal_test

import (
	"fmt"
	"math"
	"math/rand"
	"slices"
	"strings"
	"testing"

	"signal/signal"
)

func wantNoCode(t *testing.T, text string, id string, wantErr signal.Errno, wantPlace int) {
	t.Helper()
	pack, unpack, err, place := signal.Compile(text, id)
	if pack != "" || unpack != "" || err != wantErr || place != wantPlace {
		t.Errorf("P11: Compile(%.330q, %.20q) = %q %q %d %d, want the error %d %d", text, id, pack, unpack, err, place, wantErr, wantPlace)
	}
}

// compiled answers the codes of a message, held to Verify and to the bound of
// instructions `P` and `G`.
func compiled(t *testing.T, text string, id string) (string, string) {
	t.Helper()
	pack, unpack, err, place := signal.Compile(text, id)
	if err != signal.OK || place != 0 {
		t.Fatalf("P11: Compile(%q, %q) = %q %q %d %d", text, id, pack, unpack, err, place)
	}
	m, _ := modelFind(text, id)
	for _, code := range []string{pack, unpack} {
		if err, place := signal.Verify(code); err != signal.OK {
			t.Fatalf("P11: Compile(%q, %q) answers %q: Verify answers %d %d", text, id, code, err, place)
		}
		if got, most := countMoves(code), countPairs(m); got > most {
			t.Errorf("P11: Compile(%q, %q) answers %q: %d instructions P and G, at most %d are allowed", text, id, code, got, most)
		}
	}
	return pack, unpack
}

func countMoves(code string) int {
	count := 0
	for _, part := range chunks(code) {
		if part[0] == 'P' || part[0] == 'G' {
			count++
		}
	}
	return count
}

// countPairs counts the pairs of a signal and a byte in which a bit of it lies.
func countPairs(m modelMessage) int {
	pairs := map[[2]int]bool{}
	for i, s := range m.signals {
		for _, place := range s.bits {
			pairs[[2]int{i, place / 8}] = true
		}
	}
	return len(pairs)
}

// wantSameFill holds the first code to Pack, and Pack to the model.
func wantSameFill(t *testing.T, text string, m modelMessage, code string, values []int) signal.Errno {
	t.Helper()
	want, wantErr, wantPlace := modelPack(text, m.id, values)
	wantPack(t, text, m.id, values, want, wantErr, wantPlace)
	payload, err, place := signal.Fill(code, values, m.size)
	if payload != want || err != wantErr || place != wantPlace {
		t.Errorf("P11: %q: Fill of the first code and %v = %q %d %d, Pack %q %d %d", text, values, payload, err, place, want, wantErr, wantPlace)
	}
	return err
}

// wantSameRead holds the second code to Unpack, and Unpack to the model.
func wantSameRead(t *testing.T, text string, m modelMessage, code string, payload string) string {
	t.Helper()
	want, wantSigns, wantErr, wantPlace := modelUnpack(text, m.id, payload)
	wantUnpack(t, text, m.id, payload, want, wantSigns, wantErr, wantPlace)
	for len(want) < 8 {
		want = append(want, 0)
		wantSigns += "-"
	}
	values, signs, err, place := signal.Read(code, payload)
	if !slices.Equal(values, want) || signs != wantSigns || err != wantErr || place != wantPlace {
		t.Errorf("P11: %q: Read of the second code and %q = %v %q %d %d, Unpack %v %q %d %d",
			text, payload, values, signs, err, place, want, wantSigns, wantErr, wantPlace)
	}
	return signs
}

func TestCompileErrorsInOrder(t *testing.T) {
	wantNoCode(t, strings.Repeat("x", 321), "x", signal.ErrLong, 0)
	wantNoCode(t, strings.Repeat("x", 320), "x", signal.ErrText, 0)
	wantNoCode(t, "", "", signal.ErrText, 0)
	wantNoCode(t, "000", "x", signal.ErrText, 3)
	wantNoCode(t, "0000;0000", "000", signal.ErrTwice, 5)
	wantNoCode(t, "0001,a0001<u-,a0001<u-", "000", signal.ErrTwice, 14)
	wantNoCode(t, "0001,a0001<u0", "x", signal.ErrMux, 5)
	wantNoCode(t, "0001,a0009<u-", "000", signal.ErrFit, 5)
	wantNoCode(t, "0000;0011,a0001<u-,b0001<u-", "000", signal.ErrShare, 19)
	for _, id := range []string{"", "1", "1A", "1A1", "1a0", "1A0 ", "1A00", "01A0", "9A0", "\xff\xff\xff", strings.Repeat("1A0", 1000)} {
		wantNoCode(t, muxed, id, signal.ErrId, 0)
	}
}

// The messages that the tests of Pack and Unpack hold to the document by hand.
func TestCompileInstances(t *testing.T) {
	odd := []int{math.MinInt, -1 << 32, -129, -128, -2, -1, 0, 1, 2, 5, 7, 8, 15, 16, 127, 128, 255, 256, 1<<32 - 1, 1 << 32, math.MaxInt}
	for _, c := range []struct{ text, id string }{
		{muxed, "1A0"}, {mixed, "000"}, {mixed, "7FF"}, {mixed, "010"}, {late, "020"}, {minus, "030"},
		{"0000", "000"}, {"0003", "000"}, {"0003,a0010>u-", "000"},
	} {
		m, _ := modelFind(c.text, c.id)
		pack, unpack := compiled(t, c.text, c.id)
		combine(odd, len(m.signals), func(values []int) { wantSameFill(t, c.text, m, pack, values) })
		for x := range 256 {
			wantSameRead(t, c.text, m, unpack, strings.Repeat(string([]byte{byte(x)}), m.size))
			wantSameRead(t, c.text, m, unpack, string([]byte{byte(x), 1, 2, 255, 128, 0, 127, byte(x)})[:m.size])
		}
	}
}

// combine hands on all lists of as many of the values as count.
func combine(values []int, count int, do func([]int)) {
	list := make([]int, count)
	var fill func(int)
	fill = func(at int) {
		if at == count {
			do(list)
			return
		}
		for _, value := range values {
			list[at] = value
			fill(at + 1)
		}
	}
	fill(0)
}

// Each start, length, order and kind that fits, alone in a message.
func TestCompileEachSignal(t *testing.T) {
	r := rand.New(rand.NewSource(9))
	count := 0
	for start := range 64 {
		for length := 1; length <= 32; length++ {
			for _, form := range []string{"<u", "<s", ">u", ">s"} {
				text := fmt.Sprintf("1238,a%02d%02d%s-", start, length, form)
				if err, _ := modelCheck(text); err != signal.OK {
					continue
				}
				count++
				m, _ := modelFind(text, "123")
				pack, unpack := compiled(t, text, "123")
				low, high := modelRange(m.signals[0])
				for _, value := range []int{low, high, low - 1, high + 1, randomValue(r, m.signals[0])} {
					wantSameFill(t, text, m, pack, []int{value})
				}
				for _, payload := range []string{"\xff\xff\xff\xff\xff\xff\xff\xff", randomBytes(r, 8)} {
					wantSameRead(t, text, m, unpack, payload)
				}
			}
		}
	}
	if count < 4000 {
		t.Errorf("only %d signals fit", count)
	}
}

// The longest code: seven signals that each lie in five bytes and hang on an
// eighth; and a multiplexor of the greatest length.
func TestCompileLongest(t *testing.T) {
	long := "7FF8"
	wide := "7FF8,m0132<sM"
	for i := range 7 {
		long += fmt.Sprintf(",%c2732>s%d", 'a'+i, i)
		wide += fmt.Sprintf(",%c3330<s%d", 'a'+i, i)
	}
	long += ",m0204<sM"
	r := rand.New(rand.NewSource(10))
	for _, text := range []string{long, wide} {
		wantCheck(t, text, signal.OK, 0)
		m, _ := modelFind(text, "7FF")
		pack, unpack := compiled(t, text, "7FF")
		for choice := -9; choice <= 9; choice++ {
			for range 20 {
				values := make([]int, 8)
				for i, s := range m.signals {
					values[i] = randomValue(r, s)
					if s.role == 'M' {
						values[i] = choice
					}
				}
				wantSameFill(t, text, m, pack, values)
				wantSameRead(t, text, m, unpack, randomBytes(r, 8))
			}
		}
	}
}

func TestCompileModel(t *testing.T) {
	r := rand.New(rand.NewSource(11))
	seen := map[signal.Errno]int{}
	resting := 0
	for range 1500 {
		text, m := soundText(r)
		pack, unpack := compiled(t, text, m.id)
		for range 8 {
			values := []int{}
			for _, s := range m.signals {
				values = append(values, randomValue(r, s))
			}
			for len(values) > 0 && r.Intn(3) == 0 {
				values[r.Intn(len(values))] = randomRegister(r)
			}
			err := wantSameFill(t, text, m, pack, values)
			seen[err]++
			signs := wantSameRead(t, text, m, unpack, randomBytes(r, m.size))
			resting += strings.Count(signs[:len(m.signals)], "-")
		}
	}
	if seen[signal.OK] < 1000 || seen[signal.ErrRange] < 1000 || resting < 1000 {
		t.Errorf("too few cases of a kind: %v, %d signals not active", seen, resting)
	}
}

// A multiplexor may stand anywhere among the signals that hang on it.
func TestCompileMuxAnywhere(t *testing.T) {
	r := rand.New(rand.NewSource(12))
	for at := range 4 {
		parts := []string{",a0806<s0", ",b1506>u1", ",c0803<s9"}
		parts = slices.Insert(parts, at, ",m0004<uM")
		text := "0A02" + strings.Join(parts, "")
		m, _ := modelFind(text, "0A0")
		pack, unpack := compiled(t, text, "0A0")
		for choice := -1; choice < 17; choice++ {
			for range 20 {
				values := []int{r.Intn(80) - 40, r.Intn(80) - 10, r.Intn(12) - 6}
				values = slices.Insert(values, at, choice)
				wantSameFill(t, text, m, pack, values)
			}
		}
		for x := range 1 << 16 {
			if x%7 == at {
				wantSameRead(t, text, m, unpack, string([]byte{byte(x), byte(x >> 8)}))
			}
		}
	}
}
