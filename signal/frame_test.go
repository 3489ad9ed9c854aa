package signal_test

import (
	"fmt"
	"math/rand"
	"strings"
	"testing"

	"signal/signal"
)

func wantFrame(t *testing.T, id string, payload string, want string, wantErr signal.Errno) {
	t.Helper()
	bits, err := signal.Frame(id, payload)
	if bits != want || err != wantErr {
		t.Errorf("P12: Frame(%.20q, %.20q) = %q %d, want %q %d", id, payload, bits, err, want, wantErr)
	}
}

// written answers the frame that is laid out for the eye: parts apart, stuffed
// bits in brackets.
func written(layout string) string {
	return strings.NewReplacer(" ", "", "[", "", "]", "").Replace(layout)
}

// Start, id, gap, length, payload, sum and end, laid out by hand.
func TestFrameParts(t *testing.T) {
	for _, c := range []struct {
		id      string
		payload string
		want    string
	}{
		{"000", "", "0 0000[1]00000[1]00 000[1] 0000 0[1]00000[1]00000[1]0000 1111111111"},
		{"7FF", "", "0 11111[0]11111[0]1 000 00[1]00 010011100101111 1111111111"},
		{"1A0", "a", "0 00110100000[1] 000 00[1]01 01100001 100001010110101 1111111111"},
		{"123", "\xff\x00", "0 00100100011 000 00[1]10 11111[0]111 00000[1]000 011001111 1[0]01010 1111111111"},
		{"555", "12345678", "0 10101010101 000 1000 00[1]110001 00110010 00110011 00110100 00110101 00110110 00110111 00111000 11000100000[1]0001 1111111111"},
		// A bit is stuffed right behind the sum, of either kind.
		{"017", "", "0 0000[1]0010111 000 00[1]00 101001000011111[0] 1111111111"},
		{"1E5", "", "0 00111100101 000 00[1]00 001000101100000[1] 1111111111"},
		// And there, too, where a stuffed one is the first of the five.
		{"08D", "", "0 00010001101 000 00[1]00 01011011111[0]0000[1] 1111111111"},
	} {
		want := written(c.want)
		if model, _ := modelFrame(c.id, c.payload); model != want {
			t.Errorf("the model's frame of %q %q is %q, by hand %q", c.id, c.payload, model, want)
		}
		wantFrame(t, c.id, c.payload, want, signal.OK)
	}
}

// The order of the bits, the bounds of each part and the sum's longest way: each
// bit of a payload of 8 bytes alone, and each id of one bit.
func TestFrameSingleBits(t *testing.T) {
	for k := range 64 {
		payload := make([]byte, 8)
		payload[k/8] = 128 >> (k % 8)
		want, _ := modelFrame("2AA", string(payload))
		wantFrame(t, "2AA", string(payload), want, signal.OK)
	}
	for k := range 11 {
		id := fmt.Sprintf("%03X", 1<<k)
		want, _ := modelFrame(id, "")
		wantFrame(t, id, "", want, signal.OK)
	}
}

// The sum that the tests hold the program against, by hand and by the document's
// words.
func TestFrameSum(t *testing.T) {
	for _, c := range []struct {
		bits string
		want string
	}{
		{"", "000000000000000"},
		{"0", "000000000000000"},
		{"1", "100010110011001"},
		{"10", "100111010101011"},
		{"11", "000101100110010"},
	} {
		if got := modelSum(c.bits); got != c.want {
			t.Errorf("the model's sum of %q is %q, want %q", c.bits, got, c.want)
		}
	}
	for number := range 2048 {
		id := fmt.Sprintf("%03X", number)
		head := modelHead(id, 0, "")
		if modelSum(head) != steppedSum(head) {
			t.Fatalf("the model's sum of %q is %q, step by step %q", head, modelSum(head), steppedSum(head))
		}
	}
}

// steppedSum goes through the document's words one by one.
func steppedSum(bits string) string {
	sum := 0
	for _, bit := range bits {
		sum *= 2
		if (bit == '1') != (sum/32768%2 == 1) {
			sum ^= 17817
		}
		sum %= 32768
	}
	return fmt.Sprintf("%015b", sum)
}

// Every id, and payloads of every length, there and back.
func TestFrameModel(t *testing.T) {
	r := rand.New(rand.NewSource(12))
	stuffedLast := map[byte]int{}
	sizes := map[int]int{}
	for number := range 2048 {
		id := fmt.Sprintf("%03X", number)
		for size := range 9 {
			payload := randomPayload(r, size)
			want, err := modelFrame(id, payload)
			wantFrame(t, id, payload, want, err)
			wantDeframe(t, want, id, payload, signal.OK)
			head := modelHead(id, size, payload)
			sum := modelSum(head)
			if body := modelStuff(head + sum); body != modelStuff(head+sum[:14])+sum[14:] {
				stuffedLast[body[len(body)-1]]++
			}
			sizes[size]++
			if t.Failed() {
				return
			}
		}
	}
	if stuffedLast['0'] < 100 || stuffedLast['1'] < 100 {
		t.Errorf("too few frames with a bit stuffed behind the sum: %v", stuffedLast)
	}
	for size := range 9 {
		if sizes[size] < 2000 {
			t.Errorf("only %d payloads of %d bytes", sizes[size], size)
		}
	}
}

func TestFrameErrorsInOrder(t *testing.T) {
	ids := []string{"", "0", "00", "0000", "800", "F00", "00a", "0a0", "a00", "00G", "0/0", "00:", "0@0", "00`", " 00", "00 ", "-00", "+00", "0x1", "8FF",
		"000\x00", "\x00\x00\x00", "\xff\xff\xff", "７FF", strings.Repeat("0", 5000)}
	for _, id := range ids {
		wantFrame(t, id, "", "", signal.ErrId)
		wantFrame(t, id, "12345678", "", signal.ErrId)
		wantFrame(t, id, "123456789", "", signal.ErrLong)
	}
	for _, id := range []string{"000", "7FF", "009", "00A", "00F", "090", "0A0", "0F0", "700"} {
		want, err := modelFrame(id, "12345678")
		if err != signal.OK {
			t.Fatalf("the model refuses %q", id)
		}
		wantFrame(t, id, "12345678", want, signal.OK)
		wantFrame(t, id, "123456789", "", signal.ErrLong)
		wantFrame(t, id, strings.Repeat("\x00", 1<<20), "", signal.ErrLong)
	}
}

// Every three bytes of those around the bounds of an id's.
func TestFrameIdBounds(t *testing.T) {
	around := "/0178:@9AFG`af"
	for _, a := range []byte(around) {
		for _, b := range []byte(around) {
			for _, c := range []byte(around) {
				id := string([]byte{a, b, c})
				want, err := modelFrame(id, "x")
				wantFrame(t, id, "x", want, err)
			}
		}
	}
}
