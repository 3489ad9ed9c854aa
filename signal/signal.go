// Package signal: a database of signals, its compiler to pack and unpack programs, and frames: see DOC.md.
package signal

// Errno is what a call answers: OK or the reason for a refusal.
type Errno int

const (
	OK       Errno = 0
	ErrLong  Errno = 1  // an argument above its bound
	ErrText  Errno = 2  // no database
	ErrTwice Errno = 3  // an id or a name stands twice
	ErrMux   Errno = 4  // a multiplexor too many, or none
	ErrFit   Errno = 5  // a bit behind the payload
	ErrShare Errno = 6  // two signals on one bit
	ErrId    Errno = 7  // no such message, or no id
	ErrCount Errno = 8  // not as many values as wanted
	ErrRange Errno = 9  // a value that its signal cannot hold
	ErrSize  Errno = 10 // a payload of another size
	ErrCode  Errno = 11 // no instruction
	ErrForm  Errno = 12 // no frame
)

// Check tells whether a text is a sound database (P3).
func Check(text string) (Errno, int) {
	_, err, place := soundMessages(text)
	return err, place
}

// Pack lays values into a payload (P4).
func Pack(text string, id string, values []int) (string, Errno, int) {
	m, err, place := soundMessage(text, id)
	if err != OK {
		return "", err, place
	}
	if len(values) != len(m.signals) {
		return "", ErrCount, 0
	}
	choice := 0
	mux := multiplexor(m.signals)
	// Without a multiplexor no role is a digit, and the choice counts nothing.
	if mux >= 0 {
		choice = values[mux]
	}
	unfit := firstUnfit(m.signals, values, choice)
	if unfit >= 0 {
		return "", ErrRange, unfit
	}
	bits := packBits(m.signals, values, choice)
	return payloadText(bits, m.size), OK, 0
}

// Unpack reads the values from a payload (P5).
func Unpack(text string, id string, payload string) ([]int, string, Errno, int) {
	if len(payload) > maxPayload {
		return nil, "", ErrLong, 0
	}
	m, err, place := soundMessage(text, id)
	if err != OK {
		return nil, "", err, place
	}
	if len(payload) != m.size {
		return nil, "", ErrSize, 0
	}
	bits := payloadBits(payload)
	values, signs := unpackBits(m.signals, bits)
	return values, signs, OK, 0
}

// Verify checks code (P7).
func Verify(code string) (Errno, int) {
	_, err, place := soundCode(code)
	return err, place
}

// Fill runs a packing program (P9).
func Fill(code string, values []int, size int) (string, Errno, int) {
	program, err, place := soundCode(code)
	if err != OK {
		return "", err, place
	}
	if size < 0 || size > maxPayload {
		return "", ErrSize, 0
	}
	if len(values) > registerCount {
		return "", ErrCount, 0
	}
	m := machine{}
	for i := 0; i < len(values); i++ {
		m.registers[i] = values[i]
	}
	err, place = m.run(program)
	if err != OK {
		return "", err, place
	}
	return payloadText(m.bits, size), OK, 0
}

// Read runs an unpacking program (P10).
func Read(code string, payload string) ([]int, string, Errno, int) {
	if len(payload) > maxPayload {
		return nil, "", ErrLong, 0
	}
	program, err, place := soundCode(code)
	if err != OK {
		return nil, "", err, place
	}
	m := machine{}
	m.bits = payloadBits(payload)
	err, place = m.run(program)
	if err != OK {
		return nil, "", err, place
	}
	values := []int{}
	for i := 0; i < registerCount; i++ {
		values = append(values, m.registers[i])
	}
	return values, m.signs(), OK, 0
}

// Compile makes the two programs of a message (P11).
func Compile(text string, id string) (string, string, Errno, int) {
	m, err, place := soundMessage(text, id)
	if err != OK {
		return "", "", err, place
	}
	pack := packCode(m.signals)
	unpack := unpackCode(m.signals)
	return pack, unpack, OK, 0
}

// Frame puts a payload into a frame (P12).
func Frame(id string, payload string) (string, Errno) {
	if len(payload) > maxPayload {
		return "", ErrLong
	}
	number := idNumber(id)
	if number < 0 {
		return "", ErrId
	}
	return frameText(number, payload), OK
}

// Deframe takes a frame apart (P13).
func Deframe(bits string) (string, string, Errno) {
	if len(bits) > maxBits {
		return "", "", ErrLong
	}
	number, payload, ok := frameParts(bits)
	if !ok {
		return "", "", ErrForm
	}
	if frameText(number, payload) != bits {
		return "", "", ErrForm
	}
	return idText(number), payload, OK
}

// Send packs and frames (P14).
func Send(text string, id string, values []int) (string, Errno, int) {
	payload, err, place := Pack(text, id, values)
	if err != OK {
		return "", err, place
	}
	bits, err := Frame(id, payload)
	return bits, err, 0
}

// Receive takes a frame apart and unpacks it (P15).
func Receive(text string, bits string) (string, []int, string, Errno, int) {
	// Ahead of Check, since ErrLong of any argument is told first.
	if len(bits) > maxBits {
		return "", nil, "", ErrLong, 0
	}
	err, place := Check(text)
	if err != OK {
		return "", nil, "", err, place
	}
	id, payload, err := Deframe(bits)
	if err != OK {
		return "", nil, "", err, 0
	}
	values, signs, err, place := Unpack(text, id, payload)
	if err != OK {
		return "", nil, "", err, place
	}
	return id, values, signs, OK, 0
}
