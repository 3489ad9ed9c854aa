package signal

// soundMessages answers the messages of a text at which Check answers OK, else
// the error of Check and its place.
func soundMessages(text string) ([]message, Errno, int) {
	if len(text) > maxText {
		return nil, ErrLong, 0
	}
	messages, ok, place := readDatabase(text)
	if !ok {
		return nil, ErrText, place
	}
	err, place := checkMessages(messages)
	if err != OK {
		return nil, err, place
	}
	return messages, OK, 0
}

// soundMessage answers the message of an id, or the first error of Check and
// ErrId with its place.
func soundMessage(text string, id string) (message, Errno, int) {
	messages, err, place := soundMessages(text)
	if err != OK {
		return message{}, err, place
	}
	number := idNumber(id)
	i := findMessage(messages, number)
	if i < 0 {
		return message{}, ErrId, 0
	}
	return messages[i], OK, 0
}

func checkMessages(messages []message) (Errno, int) {
	for i := 0; i < len(messages); i++ {
		m := messages[i]
		if findMessage(messages[:i], m.id) >= 0 {
			return ErrTwice, m.place
		}
		err, place := checkSignals(m)
		if err != OK {
			return err, place
		}
	}
	return OK, 0
}

func checkSignals(m message) (Errno, int) {
	for i := 0; i < len(m.signals); i++ {
		err := checkSignal(m, m.signals[:i], m.signals[i])
		if err != OK {
			return err, m.signals[i].place
		}
	}
	return OK, 0
}

// checkSignal answers the first rule that a signal of the message breaks, given
// the signals ahead of it.
func checkSignal(m message, earlier []signal, s signal) Errno {
	if hasName(earlier, s.name) {
		return ErrTwice
	}
	if s.role == 'M' && multiplexor(earlier) >= 0 {
		return ErrMux
	}
	// A multiplexor may stand behind the signals that hang on it.
	mux := multiplexor(m.signals)
	if isDigit(s.role) && mux < 0 {
		return ErrMux
	}
	if reaches(s, 8*m.size) {
		return ErrFit
	}
	if sharesWithAny(earlier, s) {
		return ErrShare
	}
	return OK
}

func hasName(signals []signal, name byte) bool {
	for i := 0; i < len(signals); i++ {
		if signals[i].name == name {
			return true
		}
	}
	return false
}

// reaches tells whether a bit of the signal lies at a place or behind it.
func reaches(s signal, place int) bool {
	for i := 0; i < s.length; i++ {
		if bitPlace(s, i) >= place {
			return true
		}
	}
	return false
}

// sharesWithAny tells whether the signal has a bit in common with one of the
// others that can be active together with it.
func sharesWithAny(others []signal, s signal) bool {
	own := layBits(s, allBits)
	for i := 0; i < len(others); i++ {
		other := layBits(others[i], allBits)
		if own&other != 0 && canMeet(others[i], s) {
			return true
		}
	}
	return false
}

// canMeet tells whether two signals can be active together.
func canMeet(a signal, b signal) bool {
	if a.role == b.role {
		return true
	}
	first := isDigit(a.role)
	second := isDigit(b.role)
	return !first || !second
}
