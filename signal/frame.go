package signal

const (
	maxBits = 160

	frameStart = "0"
	frameGap   = "000"
	frameEnd   = "1111111111"

	idBits     = 11
	lengthBits = 4
	byteBits   = 8
	sumBits    = 15

	// The places of the parts, ahead of stuffing.
	idPlace      = len(frameStart)
	lengthPlace  = idPlace + idBits + len(frameGap)
	payloadPlace = lengthPlace + lengthBits

	sumLimit = 1 << sumBits
	sumJoin  = 0x4599

	// stuffedRun is how many bits in a row are the same ahead of a stuffed one.
	stuffedRun = 5
)

// frameText answers the frame of an id's number and a payload of at most 8
// bytes.
func frameText(id int, payload string) string {
	bits := plainBits(id, payload)
	sum := bitsSum(bits)
	bits += numberText(sum, sumBits)
	return stuffed(bits) + frameEnd
}

// plainBits answers the bits of which the sum is made.
func plainBits(id int, payload string) string {
	bits := frameStart
	bits += numberText(id, idBits)
	bits += frameGap
	bits += numberText(len(payload), lengthBits)
	for i := 0; i < len(payload); i++ {
		bits += numberText(int(payload[i]), byteBits)
	}
	return bits
}

// numberText answers the lowest bits of a number, as many as count, the highest
// first.
func numberText(number int, count int) string {
	bits := []byte{}
	for i := count - 1; i >= 0; i-- {
		bit := byte(number >> uint(i) & 1)
		bits = append(bits, '0'+bit)
	}
	return string(bits)
}

// textNumber answers the number that bits are, the highest first.
func textNumber(bits string) int {
	number := 0
	for i := 0; i < len(bits); i++ {
		number *= 2
		if bits[i] == '1' {
			number++
		}
	}
	return number
}

// bitsSum answers the sum of bits.
func bitsSum(bits string) int {
	sum := 0
	for i := 0; i < len(bits); i++ {
		sum *= 2
		if (bits[i] == '1') != (sum >= sumLimit) {
			sum ^= sumJoin
		}
		sum %= sumLimit
	}
	return sum
}

// stuffed answers bits with one of the other kind behind each five of a kind.
func stuffed(bits string) string {
	laid := []byte{}
	run := 0
	last := byte(0)
	for i := 0; i < len(bits); i++ {
		run = runLength(run, last, bits[i])
		last = bits[i]
		laid = append(laid, last)
		if run == stuffedRun {
			// The stuffed bit is itself the first of the next run.
			last = otherBit(last)
			laid = append(laid, last)
			run = 1
		}
	}
	return string(laid)
}

// unstuffed answers bits without the one behind each five of a kind, whatever
// that one is.
func unstuffed(bits string) string {
	kept := []byte{}
	run := 0
	last := byte(0)
	for i := 0; i < len(bits); i++ {
		if run == stuffedRun {
			run = 0
		} else {
			kept = append(kept, bits[i])
		}
		run = runLength(run, last, bits[i])
		last = bits[i]
	}
	return string(kept)
}

// runLength answers how many of a kind stand in a row up to a bit, given how
// many stood so up to the last one.
func runLength(run int, last byte, bit byte) int {
	if bit == last {
		return run + 1
	}
	return 1
}

func otherBit(bit byte) byte {
	if bit == '0' {
		return '1'
	}
	return '0'
}

// frameParts answers the id's number and the payload that a text's bits say, if
// there are as many as a frame has. Whether the text is a frame is left to be
// asked: it is one if the frame of the two is the same text.
func frameParts(text string) (int, string, bool) {
	if len(text) < len(frameEnd) {
		return 0, "", false
	}
	bits := unstuffed(text[:len(text)-len(frameEnd)])
	if len(bits) < payloadPlace {
		return 0, "", false
	}
	id := textNumber(bits[idPlace : idPlace+idBits])
	size := textNumber(bits[lengthPlace:payloadPlace])
	if size > maxPayload || len(bits) != payloadPlace+byteBits*size+sumBits {
		return 0, "", false
	}
	payload := []byte{}
	for i := 0; i < size; i++ {
		at := payloadPlace + byteBits*i
		number := textNumber(bits[at : at+byteBits])
		payload = append(payload, byte(number))
	}
	return id, string(payload), true
}

// idText answers the id that a number of eleven bits is.
func idText(number int) string {
	digits := []byte{}
	for i := idLength - 1; i >= 0; i-- {
		digit := number >> uint(4*i) & 15
		digits = append(digits, hexDigit(digit))
	}
	return string(digits)
}

// hexDigit answers the digit of a worth from 0 to 15.
func hexDigit(worth int) byte {
	if worth < 10 {
		return byte('0' + worth)
	}
	return byte('A' + worth - 10)
}
