package signal

const (
	maxText    = 320
	maxMsgs    = 4
	maxSigs    = 8
	maxPayload = 8

	idLength     = 3
	headLength   = 4 // an id and a size
	signalLength = 9
)

// signal is what the text says of one signal.
type signal struct {
	place  int // where its name stands in the text
	name   byte
	start  int
	length int
	order  byte
	kind   byte
	role   byte
}

// message is what the text says of one message.
type message struct {
	place   int // where its id stands in the text
	id      int
	size    int
	signals []signal
}

// readDatabase answers the messages of a text. If the text is no database it
// answers false and the place of the first byte that is wrong or missing.
func readDatabase(text string) ([]message, bool, int) {
	messages := []message{}
	at := 0
	for len(messages) < maxMsgs {
		m, ok, end := readMessage(text, at)
		if !ok {
			return nil, false, end
		}
		messages = append(messages, m)
		if end >= len(text) {
			return messages, true, end
		}
		if text[end] != ';' {
			return nil, false, end
		}
		at = end + 1
	}
	// No message may follow, so the `;` just passed is itself the wrong byte.
	return nil, false, at - 1
}

// readMessage reads the message that begins at a place, and answers the place
// behind it; or false and the place of the first byte that is wrong or missing.
func readMessage(text string, at int) (message, bool, int) {
	right := rightHeadBytes(text, at)
	if right < headLength {
		return message{}, false, at + right
	}
	id := idNumber(text[at : at+idLength])
	m := message{place: at, id: id, size: digitWorth(text[at+idLength])}
	at += headLength
	for len(m.signals) < maxSigs && at < len(text) && text[at] == ',' {
		right = rightSignalBytes(text, at)
		if right < signalLength {
			return message{}, false, at + right
		}
		s := readSignal(text[at : at+signalLength])
		s.place = at + 1
		m.signals = append(m.signals, s)
		at += signalLength
	}
	return m, true, at
}

// readSignal reads the bytes of a signal that are known to be right.
func readSignal(text string) signal {
	if len(text) != signalLength {
		return signal{}
	}
	return signal{
		name:   text[1],
		start:  10*digitWorth(text[2]) + digitWorth(text[3]),
		length: 10*digitWorth(text[4]) + digitWorth(text[5]),
		order:  text[6],
		kind:   text[7],
		role:   text[8],
	}
}

// rightHeadBytes counts the bytes from a place on with which an id and a size
// can begin.
func rightHeadBytes(text string, at int) int {
	right := 0
	for right < headLength && at+right < len(text) && headAllows(right, text[at+right]) {
		right++
	}
	return right
}

// rightSignalBytes counts the bytes from a place on with which a signal can
// begin.
func rightSignalBytes(text string, at int) int {
	right := 0
	before := byte(0)
	for right < signalLength && at+right < len(text) {
		c := text[at+right]
		if !signalAllows(right, before, c) {
			return right
		}
		before = c
		right++
	}
	return right
}

// headAllows tells whether a byte may stand at place i of an id and a size.
func headAllows(i int, c byte) bool {
	switch i {
	case 0:
		return '0' <= c && c <= '7'
	case 1, 2:
		return '0' <= c && c <= '9' || 'A' <= c && c <= 'F'
	case 3:
		return '0' <= c && c <= '8'
	}
	return false
}

// signalAllows tells whether a byte may stand at place i of a signal, behind
// the byte before: of a number, the first digit bounds the second.
func signalAllows(i int, before byte, c byte) bool {
	switch i {
	case 0:
		return c == ','
	case 1:
		return 'a' <= c && c <= 'z'
	case 2:
		return '0' <= c && c <= '6'
	case 3:
		return '0' <= c && c <= '9' && (before != '6' || c <= '3')
	case 4:
		return '0' <= c && c <= '3'
	case 5:
		return '0' <= c && c <= '9' && (before != '0' || c >= '1') && (before != '3' || c <= '2')
	case 6:
		return c == '<' || c == '>'
	case 7:
		return c == 'u' || c == 's'
	case 8:
		return c == '-' || c == 'M' || isDigit(c)
	}
	return false
}

// idNumber answers the number that an id is, or -1 if the text is no id. No two
// ids are the same number, so numbers can be compared in their stead.
func idNumber(id string) int {
	if len(id) != idLength {
		return -1
	}
	number := 0
	for i := 0; i < len(id); i++ {
		if !headAllows(i, id[i]) {
			return -1
		}
		number = 16*number + digitWorth(id[i])
	}
	return number
}

func isDigit(c byte) bool {
	return '0' <= c && c <= '9'
}

// digitWorth answers the worth of a digit of base 16.
func digitWorth(c byte) int {
	if c >= 'A' {
		return int(c) - 'A' + 10
	}
	return int(c) - '0'
}

// findMessage answers the number of the message with an id's number, or -1.
func findMessage(messages []message, id int) int {
	for i := 0; i < len(messages); i++ {
		if messages[i].id == id {
			return i
		}
	}
	return -1
}

// multiplexor answers the number of the first multiplexor of the signals, or -1.
func multiplexor(signals []signal) int {
	for i := 0; i < len(signals); i++ {
		if signals[i].role == 'M' {
			return i
		}
	}
	return -1
}
