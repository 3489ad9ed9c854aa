package signal_test

// A second, slower reading of the document, against which the program is held.

import (
	"fmt"
	"math/rand"
	"regexp"
	"sort"
	"strconv"
	"strings"

	"signal/signal"
)

const (
	idForm      = `[0-7][0-9A-F][0-9A-F]`
	signalForm  = `,[a-z]([0-5][0-9]|6[0-3])(0[1-9]|[12][0-9]|3[0-2])[<>][us][-M0-9]`
	messageForm = idForm + `[0-8](` + signalForm + `){0,8}`
)

var databaseForm = regexp.MustCompile(`^` + messageForm + `(;` + messageForm + `){0,3}$`)

type modelSignal struct {
	place  int
	name   byte
	bits   []int // places in the payload, lowest bit first
	signed bool
	role   byte
}

type modelMessage struct {
	place   int
	id      string
	size    int
	signals []modelSignal
}

// canBegin tells whether a database begins with the text: an open message or
// signal can always be ended by a tail of a plain one.
func canBegin(text string) bool {
	for _, plain := range []string{"0000", "a0001<u-"} {
		for i := 0; i <= len(plain); i++ {
			if databaseForm.MatchString(text + plain[i:]) {
				return true
			}
		}
	}
	return false
}

func modelText(text string) int {
	return sort.Search(len(text), func(i int) bool { return !canBegin(text[:i+1]) })
}

func modelBits(start int, length int, order byte) []int {
	bits := make([]int, length)
	place := start
	for i := range length {
		if order == '<' {
			bits[i] = start + i
			continue
		}
		bits[length-1-i] = place
		if place%8 != 0 {
			place--
		} else {
			place += 15
		}
	}
	return bits
}

func modelRead(text string) []modelMessage {
	var messages []modelMessage
	place := 0
	for _, part := range strings.Split(text, ";") {
		m := modelMessage{place: place, id: part[:3], size: int(part[3] - '0')}
		for i := 4; i < len(part); i += 9 {
			start, _ := strconv.Atoi(part[i+2 : i+4])
			length, _ := strconv.Atoi(part[i+4 : i+6])
			m.signals = append(m.signals, modelSignal{
				place:  place + i + 1,
				name:   part[i+1],
				bits:   modelBits(start, length, part[i+6]),
				signed: part[i+7] == 's',
				role:   part[i+8],
			})
		}
		messages = append(messages, m)
		place += len(part) + 1
	}
	return messages
}

func isDigit(c byte) bool { return strings.IndexByte("0123456789", c) >= 0 }

func modelSignalFault(m modelMessage, i int) signal.Errno {
	s := m.signals[i]
	hasMux := false
	for _, other := range m.signals {
		hasMux = hasMux || other.role == 'M'
	}
	for _, earlier := range m.signals[:i] {
		if earlier.name == s.name {
			return signal.ErrTwice
		}
	}
	for _, earlier := range m.signals[:i] {
		if earlier.role == 'M' && s.role == 'M' {
			return signal.ErrMux
		}
	}
	if isDigit(s.role) && !hasMux {
		return signal.ErrMux
	}
	taken := map[int]bool{}
	for _, earlier := range m.signals[:i] {
		apart := isDigit(earlier.role) && isDigit(s.role) && earlier.role != s.role
		for _, bit := range earlier.bits {
			taken[bit] = taken[bit] || !apart
		}
	}
	shared := false
	for _, bit := range s.bits {
		if bit >= 8*m.size {
			return signal.ErrFit
		}
		shared = shared || taken[bit]
	}
	if shared {
		return signal.ErrShare
	}
	return signal.OK
}

type checked struct {
	err   signal.Errno
	place int
}

var knownChecks = map[string]checked{}

// modelCheck keeps what it found, since the tests ask of a text many times.
func modelCheck(text string) (signal.Errno, int) {
	known, found := knownChecks[text]
	if !found {
		known.err, known.place = modelCheckAnew(text)
		knownChecks[text] = known
	}
	return known.err, known.place
}

func modelCheckAnew(text string) (signal.Errno, int) {
	if len(text) > 320 {
		return signal.ErrLong, 0
	}
	if !databaseForm.MatchString(text) {
		return signal.ErrText, modelText(text)
	}
	seen := map[string]bool{}
	for _, m := range modelRead(text) {
		if seen[m.id] {
			return signal.ErrTwice, m.place
		}
		seen[m.id] = true
		for i, s := range m.signals {
			if err := modelSignalFault(m, i); err != signal.OK {
				return err, s.place
			}
		}
	}
	return signal.OK, 0
}

func modelFind(text string, id string) (modelMessage, bool) {
	for _, m := range modelRead(text) {
		if m.id == id {
			return m, true
		}
	}
	return modelMessage{}, false
}

// modelActive tells for each signal whether it is active, given the values.
func modelActive(m modelMessage, values []int) []bool {
	active := make([]bool, len(m.signals))
	for i, s := range m.signals {
		active[i] = !isDigit(s.role)
		for j, mux := range m.signals {
			if mux.role == 'M' && strconv.Itoa(values[j]) == string(rune(s.role)) {
				active[i] = true
			}
		}
	}
	return active
}

// modelHolds answers what the signal holds in a row of 64 bits.
func modelHolds(s modelSignal, bits [64]int) int {
	sum, worth := 0, 1
	for i, place := range s.bits {
		if s.signed && i == len(s.bits)-1 {
			worth = -worth
		}
		sum += bits[place] * worth
		worth *= 2
	}
	return sum
}

func modelRange(s modelSignal) (int, int) {
	all := 1
	for range s.bits {
		all *= 2
	}
	if s.signed {
		return -all / 2, all/2 - 1
	}
	return 0, all - 1
}

func modelPack(text string, id string, values []int) (string, signal.Errno, int) {
	if err, place := modelCheck(text); err != signal.OK {
		return "", err, place
	}
	m, found := modelFind(text, id)
	if !found {
		return "", signal.ErrId, 0
	}
	if len(values) != len(m.signals) {
		return "", signal.ErrCount, 0
	}
	var bits [64]int
	for i, active := range modelActive(m, values) {
		if !active {
			continue
		}
		low, high := modelRange(m.signals[i])
		if values[i] < low || values[i] > high {
			return "", signal.ErrRange, i
		}
		rest := values[i] - low
		if m.signals[i].signed {
			rest = values[i] + 2*(high+1)
		}
		for _, place := range m.signals[i].bits {
			bits[place] = rest % 2
			rest /= 2
		}
	}
	return modelBytes(bits)[:m.size], signal.OK, 0
}

func modelUnpack(text string, id string, payload string) ([]int, string, signal.Errno, int) {
	if len(payload) > 8 {
		return nil, "", signal.ErrLong, 0
	}
	if err, place := modelCheck(text); err != signal.OK {
		return nil, "", err, place
	}
	m, found := modelFind(text, id)
	if !found {
		return nil, "", signal.ErrId, 0
	}
	if len(payload) != m.size {
		return nil, "", signal.ErrSize, 0
	}
	bits := modelPayload(payload)
	values := make([]int, len(m.signals))
	for i, s := range m.signals {
		values[i] = modelHolds(s, bits)
	}
	signs := ""
	for i, active := range modelActive(m, values) {
		if active {
			signs += "+"
		} else {
			signs += "-"
			values[i] = 0
		}
	}
	return values, signs, signal.OK, 0
}

func modelPayload(payload string) [64]int {
	var bits [64]int
	for k := range 8 * len(payload) {
		bits[k] = int(payload[k/8]) >> (k % 8) % 2
	}
	return bits
}

func modelBytes(bits [64]int) string {
	var payload [8]byte
	for k, bit := range bits {
		payload[k/8] += byte(bit << (k % 8))
	}
	return string(payload[:])
}

// masked answers the payload with each bit 0 that no active signal has.
func masked(m modelMessage, payload string, signs string) string {
	bits := modelPayload(payload)
	var kept [64]int
	for i, s := range m.signals {
		for _, place := range s.bits {
			if signs[i] == '+' {
				kept[place] = bits[place]
			}
		}
	}
	return modelBytes(kept)[:len(payload)]
}

// randomMessage makes a message; crowded ones often break a rule.
func randomMessage(r *rand.Rand, id int, crowded bool) string {
	text := fmt.Sprintf("%03X%d", id, r.Intn(9))
	roles := "-M0123456789"
	if r.Intn(2) == 0 {
		roles = "-M01"
	}
	names := 26
	if crowded && r.Intn(3) == 0 {
		names = 4
	}
	longest := []int{1, 4, 12, 32}[r.Intn(4)]
	for range r.Intn(9) {
		s := fmt.Sprintf(",%c%02d%02d%c%c%c", 'a'+r.Intn(names), r.Intn(64), 1+r.Intn(longest),
			"<>"[r.Intn(2)], "us"[r.Intn(2)], roles[r.Intn(len(roles))])
		if err, _ := modelCheck(text + s); crowded || err == signal.OK || err == signal.ErrMux && r.Intn(4) == 0 {
			text += s
		}
	}
	return text
}

func randomText(r *rand.Rand, crowded bool) string {
	var parts []string
	ids := 2048
	if crowded && r.Intn(3) == 0 {
		ids = 8
	}
	for range 1 + r.Intn(4) {
		parts = append(parts, randomMessage(r, r.Intn(ids), crowded))
	}
	return strings.Join(parts, ";")
}

// soundText makes a database at which Check answers OK, with a message that has
// signals, a multiplexor among them more often than not.
func soundText(r *rand.Rand) (string, modelMessage) {
	for {
		text := muxMessage(r)
		if r.Intn(2) == 0 {
			text = randomMessage(r, r.Intn(2048), false) + ";" + text
		}
		if err, _ := modelCheck(text); err != signal.OK {
			continue
		}
		messages := modelRead(text)
		return text, messages[len(messages)-1]
	}
}

// muxMessage lays signals one by one, leaving out those that break a rule.
func muxMessage(r *rand.Rand) string {
	text := fmt.Sprintf("%03X%d", r.Intn(2048), 1+r.Intn(8))
	roles := "-"
	if r.Intn(4) > 0 {
		roles = "-0123"
		text += fmt.Sprintf(",m%02d%02d%c%cM", r.Intn(64), 1+r.Intn(5), "<>"[r.Intn(2)], "us"[r.Intn(2)])
	}
	longest := []int{3, 8, 20, 32}[r.Intn(4)]
	for i := range 24 {
		s := fmt.Sprintf(",%c%02d%02d%c%c%c", 'a'+i%12, r.Intn(64), 1+r.Intn(longest),
			"<>"[r.Intn(2)], "us"[r.Intn(2)], roles[r.Intn(len(roles))])
		if err, _ := modelCheck(text + s); err == signal.OK {
			text += s
		}
	}
	return text
}

// randomValue answers a value that fits the signal, often one of its bounds, or
// one of a multiplexor that signals hang on.
func randomValue(r *rand.Rand, s modelSignal) int {
	low, high := modelRange(s)
	if s.role == 'M' && r.Intn(2) == 0 {
		return r.Intn(min(high+1, 4))
	}
	switch r.Intn(12) {
	case 0:
		return low
	case 1:
		return high
	}
	return low + r.Intn(high-low+1)
}
