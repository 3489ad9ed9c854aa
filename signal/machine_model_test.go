package signal_test

// A second reading of the machine: registers as big numbers, bits in rows.

import (
	"math/big"
	"math/rand"
	"strings"

	"signal/signal"
)

// op answers the five bytes of an instruction.
func op(letter byte, r int, b int, k int, n int) string {
	return string([]byte{letter, byte(r), byte(b), byte(k), byte(n)})
}

// chunks cuts code into fives, the last of which may be shorter.
func chunks(code string) []string {
	var parts []string
	for len(code) > 5 {
		parts = append(parts, code[:5])
		code = code[5:]
	}
	if code != "" {
		parts = append(parts, code)
	}
	return parts
}

func modelHoldsRow(letter byte, r int, b int, k int, n int, behind int) bool {
	if r > 7 || n == 0 && letter != 'A' {
		return false
	}
	laid := b <= 63 && b%8+n <= 8 && k+n <= 32
	return letter == 'G' && laid || letter == 'P' && laid ||
		letter == 'X' && n <= 32 ||
		letter == 'R' && n <= 32 && k <= 1 ||
		letter == 'J' && n <= behind ||
		letter == 'A'
}

func modelVerify(code string) (signal.Errno, int) {
	if len(code) > 480 {
		return signal.ErrLong, 0
	}
	parts := chunks(code)
	for i, p := range parts {
		if len(p) < 5 || !modelHoldsRow(p[0], int(p[1]), int(p[2]), int(p[3]), int(p[4]), len(parts)-1-i) {
			return signal.ErrCode, i
		}
	}
	return signal.OK, 0
}

type modelMachine struct {
	registers [8]*big.Int
	marks     [8]bool
	bits      [64]int
}

func power(n int) *big.Int {
	return new(big.Int).Exp(big.NewInt(2), big.NewInt(int64(n)), nil)
}

// modulo answers the remainder from 0 on.
func modulo(x *big.Int, n int) *big.Int {
	return new(big.Int).Mod(x, power(n))
}

func (m *modelMachine) run(parts []string) (signal.Errno, int) {
	if len(parts) == 0 {
		return signal.OK, 0
	}
	p, rest := parts[0], parts[1:]
	r, b, k, n := int(p[1]), int(p[2]), int(p[3]), int(p[4])
	x := m.registers[r]
	switch p[0] {
	case 'G':
		x = modulo(x, 32)
		for i := range n {
			x.SetBit(x, k+i, uint(m.bits[b+i]))
		}
		m.registers[r] = x
	case 'P':
		for i := range n {
			m.bits[b+i] = int(modulo(x, 32).Bit(k + i))
		}
	case 'X':
		x = modulo(x, n)
		if x.Cmp(power(n-1)) >= 0 {
			x.Sub(x, power(n))
		}
		m.registers[r] = x
	case 'R':
		low, high := new(big.Int), power(n)
		if k == 1 {
			low, high = new(big.Int).Neg(power(n-1)), power(n-1)
		}
		if x.Cmp(low) < 0 || x.Cmp(high) >= 0 {
			return signal.ErrRange, r
		}
	case 'J':
		if x.Cmp(big.NewInt(int64(b))) != 0 {
			rest = rest[n:]
		}
	case 'A':
		m.marks[r] = true
	}
	return m.run(rest)
}

func newModelMachine(values []int) *modelMachine {
	m := &modelMachine{}
	for i := range m.registers {
		m.registers[i] = new(big.Int)
		if i < len(values) {
			m.registers[i].SetInt64(int64(values[i]))
		}
	}
	return m
}

func modelFill(code string, values []int, size int) (string, signal.Errno, int) {
	if err, place := modelVerify(code); err != signal.OK {
		return "", err, place
	}
	if size < 0 || size > 8 {
		return "", signal.ErrSize, 0
	}
	if len(values) > 8 {
		return "", signal.ErrCount, 0
	}
	m := newModelMachine(values)
	if err, place := m.run(chunks(code)); err != signal.OK {
		return "", err, place
	}
	return modelBytes(m.bits)[:size], signal.OK, 0
}

func modelReadCode(code string, payload string) ([]int, string, signal.Errno, int) {
	if len(payload) > 8 {
		return nil, "", signal.ErrLong, 0
	}
	if err, place := modelVerify(code); err != signal.OK {
		return nil, "", err, place
	}
	m := newModelMachine(nil)
	m.bits = modelPayload(payload)
	if err, place := m.run(chunks(code)); err != signal.OK {
		return nil, "", err, place
	}
	values := []int{}
	signs := ""
	for i, x := range m.registers {
		values = append(values, int(x.Int64()))
		if m.marks[i] {
			signs += "+"
		} else {
			signs += "-"
		}
	}
	return values, signs, signal.OK, 0
}

// randomStep makes an instruction that holds, or of a jump may hold, on few
// registers so that they meet.
func randomStep(r *rand.Rand, letters string) string {
	register := r.Intn(3)
	if r.Intn(8) == 0 {
		register = r.Intn(8)
	}
	letter := letters[r.Intn(len(letters))]
	switch letter {
	case 'G', 'P':
		n := 1 + r.Intn(8)
		return op(letter, register, 8*r.Intn(8)+r.Intn(9-n), r.Intn(33-n), n)
	case 'X':
		return op(letter, register, r.Intn(256), r.Intn(256), 1+r.Intn(32))
	case 'R':
		return op(letter, register, r.Intn(256), r.Intn(2), 32-r.Intn(1+r.Intn(32)))
	case 'J':
		return op(letter, register, []int{0, 1, r.Intn(256)}[r.Intn(3)], r.Intn(256), 1+r.Intn(3))
	}
	return op('A', register, r.Intn(256), r.Intn(256), r.Intn(256))
}

// randomCode makes code that holds more often than not.
func randomCode(r *rand.Rand) string {
	letters := "GPXJA"
	if r.Intn(3) == 0 {
		letters = "GGPPXJAR"
	}
	var code strings.Builder
	for range r.Intn(1 + r.Intn(30)) {
		code.WriteString(randomStep(r, letters))
	}
	if r.Intn(2) == 0 {
		code.WriteString(op('A', 7, 0, 0, 0) + op('A', 7, 0, 0, 0) + op('G', 1, 0, 0, 1))
	}
	return code.String()
}
