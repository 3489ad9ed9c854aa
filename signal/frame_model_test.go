package signal_test

// A second reading of the frames: the sum by long division, a frame taken apart
// by growing the one row of bits that stuffs to it.

import (
	"fmt"
	"math/rand"
	"regexp"
	"strconv"
	"strings"

	"signal/signal"
)

const tenOnes = "1111111111"

var idWhole = regexp.MustCompile(`^` + idForm + `$`)

// modelSum is what is left of the bits, fifteen zeros behind them, when they are
// divided, without carry, by 2 to the 15 and 4599 in base 16.
func modelSum(bits string) string {
	row := []byte(bits + strings.Repeat("0", 15))
	divisor := "1100010110011001"
	for i := 0; i < len(bits); i++ {
		if row[i] == '0' {
			continue
		}
		for j := range divisor {
			row[i+j] = "01"[(row[i+j]+divisor[j])%2]
		}
	}
	return string(row[len(bits):])
}

func modelStuff(bits string) string {
	laid := ""
	for _, bit := range bits {
		laid += string(bit)
		if strings.HasSuffix(laid, "00000") {
			laid += "1"
		} else if strings.HasSuffix(laid, "11111") {
			laid += "0"
		}
	}
	return laid
}

// modelHead answers the bits of a frame ahead of its sum, with a length that
// need not be the payload's.
func modelHead(id string, length int, payload string) string {
	number, _ := strconv.ParseInt(id, 16, 32)
	bits := fmt.Sprintf("0%011b000%04b", number, length)
	for _, c := range []byte(payload) {
		bits += fmt.Sprintf("%08b", c)
	}
	return bits
}

// sealed answers the text that ends bits as a frame does.
func sealed(bits string) string {
	return modelStuff(bits+modelSum(bits)) + tenOnes
}

func modelFrame(id string, payload string) (string, signal.Errno) {
	if len(payload) > 8 {
		return "", signal.ErrLong
	}
	if !idWhole.MatchString(id) {
		return "", signal.ErrId
	}
	return sealed(modelHead(id, len(payload), payload)), signal.OK
}

// modelPlain answers the longest row of bits that stuffs to a beginning of the
// text: what is stuffed of a beginning is a beginning of what is stuffed.
func modelPlain(text string) string {
	plain := ""
	for {
		switch {
		case strings.HasPrefix(text, modelStuff(plain+"0")):
			plain += "0"
		case strings.HasPrefix(text, modelStuff(plain+"1")):
			plain += "1"
		default:
			return plain
		}
	}
}

func modelDeframe(text string) (string, string, signal.Errno) {
	if len(text) > 160 {
		return "", "", signal.ErrLong
	}
	plain := modelPlain(strings.TrimSuffix(text, tenOnes))
	if len(plain) < 34 || len(plain) > 98 {
		return "", "", signal.ErrForm
	}
	number, _ := strconv.ParseInt(plain[1:12], 2, 32)
	payload := ""
	for at := 19; at+8+15 <= len(plain); at += 8 {
		c, _ := strconv.ParseUint(plain[at:at+8], 2, 8)
		payload += string([]byte{byte(c)})
	}
	id := fmt.Sprintf("%03X", number)
	if framed, err := modelFrame(id, payload); err != signal.OK || framed != text {
		return "", "", signal.ErrForm
	}
	return id, payload, signal.OK
}

func modelSend(text string, id string, values []int) (string, signal.Errno, int) {
	payload, err, place := modelPack(text, id, values)
	if err != signal.OK {
		return "", err, place
	}
	bits, err := modelFrame(id, payload)
	return bits, err, 0
}

func modelReceive(text string, bits string) (string, []int, string, signal.Errno, int) {
	if len(bits) > 160 {
		return "", nil, "", signal.ErrLong, 0
	}
	if err, place := modelCheck(text); err != signal.OK {
		return "", nil, "", err, place
	}
	id, payload, err := modelDeframe(bits)
	if err != signal.OK {
		return "", nil, "", err, 0
	}
	values, signs, err, place := modelUnpack(text, id, payload)
	if err != signal.OK {
		id = ""
	}
	return id, values, signs, err, place
}

// randomPayload makes payloads whose bits often stand in long rows.
func randomPayload(r *rand.Rand, size int) string {
	payload := []byte(randomBytes(r, size))
	for i := range payload {
		switch r.Intn(4) {
		case 0:
			payload[i] = 0
		case 1:
			payload[i] = 255
		case 2:
			payload[i] = byte(255 << r.Intn(8))
		}
	}
	return string(payload)
}
