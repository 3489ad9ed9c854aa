package signal

// A payload is handled as one number whose bit k is bit k of the payload: the
// document's count of the bits makes its first byte the lowest.

// allBits is a value whose every bit is 1.
const allBits = -1

// bitPlace answers the place in the payload of bit i of a signal.
func bitPlace(s signal, i int) int {
	if s.order == '<' {
		return s.start + i
	}
	// Counted from each byte's other end, the place behind is just the next.
	highest := mirrored(s.start)
	return mirrored(highest + s.length - 1 - i)
}

// mirrored answers the place as far from the high end of its byte as the given
// one is from the low end.
func mirrored(place int) int {
	return place - place%8 + 7 - place%8
}

// layBits answers the payload in which the signal holds a value that fits it,
// and all other bits are 0.
func layBits(s signal, value int) uint64 {
	bits := uint64(0)
	for i := 0; i < s.length; i++ {
		bit := uint64(value) >> uint(i) & 1
		place := bitPlace(s, i)
		bits |= bit << uint(place)
	}
	return bits
}

// heldValue answers what the signal holds in a payload.
func heldValue(s signal, bits uint64) int {
	value := 0
	for i := 0; i < s.length; i++ {
		place := bitPlace(s, i)
		bit := int(bits >> uint(place) & 1)
		value += bit << uint(i)
	}
	if s.kind == 's' {
		value = extended(value, s.length)
	}
	return value
}

// extended answers the signed number that the lowest bits of a value are, as
// many as length.
func extended(value int, length int) int {
	limit := 1 << uint(length)
	value &= limit - 1
	// The highest bit is in it, but counts as minus its worth: twice that less.
	if value >= limit/2 {
		value -= limit
	}
	return value
}

// fits tells whether the signal can hold a value.
func fits(s signal, value int) bool {
	return inRange(value, s.length, s.kind == 's')
}

// inRange tells whether as many bits as length can hold a value.
func inRange(value int, length int, signed bool) bool {
	limit := 1 << uint(length)
	if signed {
		return -limit/2 <= value && value < limit/2
	}
	return 0 <= value && value < limit
}

// isActive tells whether a signal is active beside a multiplexor's value.
func isActive(s signal, choice int) bool {
	if !isDigit(s.role) {
		return true
	}
	return digitWorth(s.role) == choice
}

// firstUnfit answers the number of the first active signal that its value does
// not fit, or -1.
func firstUnfit(signals []signal, values []int, choice int) int {
	for i := 0; i < len(signals) && i < len(values); i++ {
		active := isActive(signals[i], choice)
		if active && !fits(signals[i], values[i]) {
			return i
		}
	}
	return -1
}

// packBits answers the payload in which every active signal holds its value.
func packBits(signals []signal, values []int, choice int) uint64 {
	bits := uint64(0)
	for i := 0; i < len(signals) && i < len(values); i++ {
		if isActive(signals[i], choice) {
			laid := layBits(signals[i], values[i])
			bits |= laid
		}
	}
	return bits
}

// unpackBits answers the value of each signal, and its sign.
func unpackBits(signals []signal, bits uint64) ([]int, string) {
	choice := 0
	mux := multiplexor(signals)
	// Without a multiplexor no role is a digit, and the choice counts nothing.
	if mux >= 0 {
		choice = heldValue(signals[mux], bits)
	}
	values := []int{}
	signs := []byte{}
	for i := 0; i < len(signals); i++ {
		value := 0
		sign := byte('-')
		if isActive(signals[i], choice) {
			value = heldValue(signals[i], bits)
			sign = '+'
		}
		values = append(values, value)
		signs = append(signs, sign)
	}
	return values, string(signs)
}

// payloadBits answers the number that stands for a payload of at most 8 bytes.
func payloadBits(payload string) uint64 {
	bits := uint64(0)
	for i := 0; i < len(payload); i++ {
		bits |= uint64(payload[i]) << uint(8*i)
	}
	return bits
}

// payloadText answers the first bytes of a payload, as many as size.
func payloadText(bits uint64, size int) string {
	payload := []byte{}
	for i := 0; i < size; i++ {
		payload = append(payload, byte(bits>>uint(8*i)))
	}
	return string(payload)
}
