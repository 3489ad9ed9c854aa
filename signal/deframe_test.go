package signal_test

import (
	"fmt"
	"math/rand"
	"strings"
	"testing"

	"signal/signal"
)

func wantDeframe(t *testing.T, bits string, wantId string, wantPayload string, wantErr signal.Errno) {
	t.Helper()
	id, payload, err := signal.Deframe(bits)
	if id != wantId || payload != wantPayload || err != wantErr {
		t.Errorf("P13: Deframe(%.170q) = %.20q %.20q %d, want %q %q %d", bits, id, payload, err, wantId, wantPayload, wantErr)
	}
}

func wantNoFrame(t *testing.T, bits string) {
	t.Helper()
	wantDeframe(t, bits, "", "", signal.ErrForm)
}

func frame(t *testing.T, id string, payload string) string {
	t.Helper()
	bits, err := modelFrame(id, payload)
	if err != signal.OK {
		t.Fatalf("the model has no frame of %q %q", id, payload)
	}
	return bits
}

func TestDeframeLong(t *testing.T) {
	good := frame(t, "1A0", "abc")
	wantDeframe(t, strings.Repeat("0", 161), "", "", signal.ErrLong)
	wantDeframe(t, strings.Repeat("x", 161), "", "", signal.ErrLong)
	wantDeframe(t, good+strings.Repeat("1", 161-len(good)), "", "", signal.ErrLong)
	wantDeframe(t, strings.Repeat("01", 1<<20), "", "", signal.ErrLong)
	wantNoFrame(t, strings.Repeat("0", 160))
	wantNoFrame(t, strings.Repeat("1", 160))
	wantNoFrame(t, strings.Repeat("x", 160))
	wantNoFrame(t, good+strings.Repeat("1", 160-len(good)))
}

// The texts of at most a few bits, and every beginning and every end of a frame.
func TestDeframeShort(t *testing.T) {
	for length := range 13 {
		for number := range 1 << length {
			if length == 0 {
				wantNoFrame(t, "")
				continue
			}
			wantNoFrame(t, fmt.Sprintf("%0*b", length, number))
		}
	}
	for size := range 9 {
		good := frame(t, "1A0", "12345678"[:size])
		for i := range good {
			wantNoFrame(t, good[:i])
			wantNoFrame(t, good[i+1:])
			if good[:i]+tenOnes != good {
				wantNoFrame(t, good[:i]+tenOnes)
			}
		}
	}
}

// near are frames of every length, among them such with a bit stuffed right
// behind the sum.
func near(t *testing.T) []string {
	t.Helper()
	r := rand.New(rand.NewSource(13))
	frames := []string{frame(t, "000", ""), frame(t, "7FF", ""), frame(t, "017", ""), frame(t, "1E5", ""), frame(t, "08D", ""),
		frame(t, "000", "\x00\x00\x00\x00\x00\x00\x00\x00"), frame(t, "7FF", "\xff\xff\xff\xff\xff\xff\xff\xff")}
	for size := range 9 {
		for range 6 {
			id := fmt.Sprintf("%03X", r.Intn(2048))
			frames = append(frames, frame(t, id, randomPayload(r, size)))
		}
	}
	return frames
}

// A text that differs from a frame by one bit or byte is none: a bit turned,
// taken out, or laid in; and a byte that is neither 0 nor 1.
func TestDeframeNear(t *testing.T) {
	for _, good := range near(t) {
		for i := range good {
			wantNoFrame(t, good[:i]+string('0'+'1'-good[i])+good[i+1:])
			wantNoFrame(t, good[:i]+good[i+1:])
			for _, c := range []byte("2/ xoO\x00\x01\xff\xb0\xb1pq") {
				wantNoFrame(t, good[:i]+string([]byte{c})+good[i+1:])
			}
		}
		for i := range len(good) + 1 {
			for _, bit := range []string{"0", "1", "x", " "} {
				wantNoFrame(t, good[:i]+bit+good[i:])
			}
		}
		if t.Failed() {
			return
		}
	}
}

// Two bits turned, or one moved, against the model.
func TestDeframeModel(t *testing.T) {
	r := rand.New(rand.NewSource(14))
	frames := near(t)
	for range 6000 {
		bits := []byte(frames[r.Intn(len(frames))])
		for range 2 {
			i := r.Intn(len(bits))
			bits[i] = '0' + '1' - bits[i]
		}
		text := string(bits)
		if r.Intn(2) == 0 {
			i := r.Intn(len(text))
			j := r.Intn(len(text))
			rest := text[:i] + text[i+1:]
			text = rest[:j] + text[i:i+1] + rest[j:]
		}
		id, payload, err := modelDeframe(text)
		wantDeframe(t, text, id, payload, err)
	}
	for range 2000 {
		id, payload := fmt.Sprintf("%03X", r.Intn(2048)), randomPayload(r, r.Intn(9))
		wantDeframe(t, frame(t, id, payload), id, payload, signal.OK)
	}
}

// Frames in all but one thing, each with the right sum and the right stuffing.
func TestDeframeWrongParts(t *testing.T) {
	r := rand.New(rand.NewSource(15))
	for range 40 {
		id := fmt.Sprintf("%03X", r.Intn(2048))
		for size := range 9 {
			payload := randomPayload(r, size)
			head := modelHead(id, size, payload)
			wantDeframe(t, sealed(head), id, payload, signal.OK)
			// The first bit, and the three behind the id.
			for _, i := range []int{0, 12, 13, 14} {
				wantNoFrame(t, sealed(head[:i]+"1"+head[i+1:]))
			}
			for length := range 16 {
				if length != size {
					wantNoFrame(t, sealed(modelHead(id, length, payload)))
				}
			}
			// Bits beside the payload's bytes.
			for count := 1; count < 8; count++ {
				wantNoFrame(t, sealed(head+strings.Repeat("0", count)))
				wantNoFrame(t, sealed(head+strings.Repeat("1", count)))
				wantNoFrame(t, sealed(head[:len(head)-count]))
			}
			wantNoFrame(t, sealed(""))
			wantNoFrame(t, sealed(head[:1]))
		}
	}
}

// A length above 8 is none, whether as many bytes follow or 8.
func TestDeframeLengthAboveEight(t *testing.T) {
	for length := 9; length <= 15; length++ {
		for count := range 12 {
			text := sealed(modelHead("555", length, strings.Repeat("U", count)))
			if len(text) > 160 {
				t.Fatalf("a frame of %d bytes is too long for the test", count)
			}
			wantNoFrame(t, text)
		}
	}
	wantNoFrame(t, sealed(modelHead("2AA", 9, "123456789")))
}

func TestDeframeWrongSum(t *testing.T) {
	for _, id := range []string{"000", "7FF", "1A0", "017", "08D"} {
		for size := range 9 {
			head := modelHead(id, size, "\x00\xffabcdef"[:size])
			sum := modelSum(head)
			for i := range sum {
				wrong := sum[:i] + string('0'+'1'-sum[i]) + sum[i+1:]
				wantNoFrame(t, modelStuff(head+wrong)+tenOnes)
			}
			wantNoFrame(t, modelStuff(head+strings.Repeat("0", 14)+"1")+tenOnes)
			wantNoFrame(t, modelStuff(head)+tenOnes)
			wantNoFrame(t, modelStuff(head+sum+sum)+tenOnes)
		}
	}
}

func TestDeframeWrongEnd(t *testing.T) {
	for _, good := range near(t) {
		body := strings.TrimSuffix(good, tenOnes)
		for count := range 30 {
			if count != 10 && len(body)+count <= 160 {
				wantNoFrame(t, body+strings.Repeat("1", count))
			}
		}
		wantNoFrame(t, body+"0000000000")
		wantNoFrame(t, body+modelStuff(tenOnes))
	}
}

// A bit that should be stuffed and is not, or is of the wrong kind, and one that
// is and should not be.
func TestDeframeWrongStuffing(t *testing.T) {
	missing, extra := 0, 0
	for _, good := range near(t) {
		body := strings.TrimSuffix(good, tenOnes)
		plain := modelPlain(body)
		if plain != body {
			wantNoFrame(t, plain+tenOnes)
		}
		for i := range plain {
			ahead := modelStuff(plain[:i+1])
			behind := body[len(ahead):]
			if short := modelStuff(plain[:i]) + plain[i:i+1]; short != ahead {
				wantNoFrame(t, short+behind+tenOnes)
				wantNoFrame(t, short+plain[i:i+1]+behind+tenOnes)
				missing++
				continue
			}
			// Behind one to four of a kind no bit is stuffed.
			other := string('0' + '1' - plain[i])
			wantNoFrame(t, ahead+other+behind+tenOnes)
			extra++
		}
	}
	if missing < 300 || extra < 1000 {
		t.Errorf("only %d bits missing, %d too many", missing, extra)
	}
	// The stuffed bit right behind the sum, too, must be there.
	wantNoFrame(t, written("0 0000[1]0010111 000 00[1]00 101001000011111 1111111111"))
	wantNoFrame(t, written("0 00111100101 000 00[1]00 001000101100000 1111111111"))
	wantNoFrame(t, written("0 00010001101 000 00[1]00 01011011111[0]0000 1111111111"))
	// And none is stuffed behind the sum of a frame that needs none.
	wantNoFrame(t, written("0 11111[0]11111[0]1 000 00[1]00 010011100101111[0] 1111111111"))
}
