package signal

// piece is the part of a signal that lies in one byte of the payload. There its
// bits stand in a row, the lowest at the lowest place, in both orders.
type piece struct {
	place  int // of its lowest bit in the payload
	bit    int // the number of that bit in the signal
	length int
}

func pieces(s signal) []piece {
	parts := []piece{}
	i := 0
	for i < s.length {
		place := bitPlace(s, i)
		length := 8 - place%8
		if length > s.length-i {
			length = s.length - i
		}
		parts = append(parts, piece{place: place, bit: i, length: length})
		i += length
	}
	return parts
}

// packCode answers the code that packs the signals. A signal's number is its
// register's, so that the place of ErrRange is the one that Pack tells.
func packCode(signals []signal) string {
	code := ""
	mux := multiplexor(signals)
	for i := 0; i < len(signals); i++ {
		steps := packSteps(signals[i], i)
		code += ifActive(signals[i], mux, steps)
	}
	return code
}

func packSteps(s signal, register int) string {
	signed := 0
	if s.kind == 's' {
		signed = 1
	}
	code := instructionText(instruction{op: 'R', r: register, k: signed, n: s.length})
	return code + moves('P', s, register)
}

// unpackCode answers the code that unpacks the signals.
func unpackCode(signals []signal) string {
	code := ""
	mux := multiplexor(signals)
	// The others hang on its value, wherever it stands among them.
	if mux >= 0 {
		code = unpackSteps(signals[mux], mux)
	}
	for i := 0; i < len(signals); i++ {
		if i != mux {
			steps := unpackSteps(signals[i], i)
			code += ifActive(signals[i], mux, steps)
		}
	}
	return code
}

func unpackSteps(s signal, register int) string {
	code := moves('G', s, register)
	if s.kind == 's' {
		code += instructionText(instruction{op: 'X', r: register, n: s.length})
	}
	return code + instructionText(instruction{op: 'A', r: register})
}

// moves answers an instruction `G` or `P` for each piece of a signal.
func moves(op byte, s signal, register int) string {
	code := ""
	parts := pieces(s)
	for i := 0; i < len(parts); i++ {
		p := parts[i]
		code += instructionText(instruction{op: op, r: register, b: p.place, k: p.bit, n: p.length})
	}
	return code
}

// ifActive answers the steps of a signal, to be left out unless it is active.
func ifActive(s signal, mux int, steps string) string {
	if !isDigit(s.role) {
		return steps
	}
	count := len(steps) / instructionLength
	worth := digitWorth(s.role)
	return instructionText(instruction{op: 'J', r: mux, b: worth, n: count}) + steps
}

func instructionText(step instruction) string {
	return string([]byte{step.op, byte(step.r), byte(step.b), byte(step.k), byte(step.n)})
}
