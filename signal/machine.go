package signal

const (
	maxCode           = 480
	instructionLength = 5
	registerCount     = 8
	registerBits      = 32 // as many bits of a register can be laid
	payloadBitCount   = 8 * maxPayload
)

// instruction is what five bytes of code say.
type instruction struct {
	op byte
	r  int
	b  int
	k  int
	n  int
}

// machine is what a run works on.
type machine struct {
	registers [registerCount]int
	marked    [registerCount]bool
	bits      uint64 // the payload
}

// soundCode answers the instructions of code at which Verify answers OK, else
// the error of Verify and its place.
func soundCode(code string) ([]instruction, Errno, int) {
	if len(code) > maxCode {
		return nil, ErrLong, 0
	}
	// Bytes at the end that make no whole instruction are one, too.
	count := (len(code) + instructionLength - 1) / instructionLength
	program := []instruction{}
	for i := 0; i < count; i++ {
		at := instructionLength * i
		if at+instructionLength > len(code) {
			return nil, ErrCode, i
		}
		step := readInstruction(code[at : at+instructionLength])
		if !isInstruction(step, count-1-i) {
			return nil, ErrCode, i
		}
		program = append(program, step)
	}
	return program, OK, 0
}

func readInstruction(code string) instruction {
	if len(code) != instructionLength {
		return instruction{}
	}
	return instruction{
		op: code[0],
		r:  int(code[1]),
		b:  int(code[2]),
		k:  int(code[3]),
		n:  int(code[4]),
	}
}

// isInstruction tells whether an instruction holds, with as many others behind
// it.
func isInstruction(step instruction, behind int) bool {
	if step.r >= registerCount {
		return false
	}
	// `A` alone takes any n.
	if step.op != 'A' && step.n < 1 {
		return false
	}
	switch step.op {
	case 'G', 'P':
		inByte := step.b%8+step.n <= 8
		inRegister := step.k+step.n <= registerBits
		return step.b < payloadBitCount && inByte && inRegister
	case 'X':
		return step.n <= registerBits
	case 'R':
		return step.n <= registerBits && step.k <= 1
	case 'J':
		return step.n <= behind
	case 'A':
		return true
	}
	return false
}

// run goes through instructions that hold, and answers OK, or ErrRange and its
// place.
func (m *machine) run(program []instruction) (Errno, int) {
	at := 0
	for at < len(program) {
		step := program[at]
		at++
		// Never so of an instruction that holds: the index below must be safe
		// without that promise.
		if step.r < 0 || step.r >= registerCount {
			return ErrCode, 0
		}
		value := m.registers[step.r]
		switch step.op {
		case 'G':
			m.registers[step.r] = getBits(value, m.bits, step)
		case 'P':
			m.bits = putBits(m.bits, value, step)
		case 'X':
			m.registers[step.r] = extended(value, step.n)
		case 'R':
			if !inRange(value, step.n, step.k == 1) {
				return ErrRange, step.r
			}
		case 'J':
			if value != step.b {
				at += step.n
			}
		case 'A':
			m.marked[step.r] = true
		}
	}
	return OK, 0
}

// getBits answers the register's value with bits of the payload laid into it.
func getBits(value int, bits uint64, step instruction) int {
	ones := uint64(1)<<uint(step.n) - 1
	got := bits >> uint(step.b) & ones
	kept := uint64(value) & (1<<registerBits - 1) &^ (ones << uint(step.k))
	return int(kept | got<<uint(step.k))
}

// putBits answers the payload with bits of the register's value laid into it.
func putBits(bits uint64, value int, step instruction) uint64 {
	ones := uint64(1)<<uint(step.n) - 1
	put := uint64(value) >> uint(step.k) & ones
	kept := bits &^ (ones << uint(step.b))
	return kept | put<<uint(step.b)
}

// signs answers a `+` for each register that is marked, and a `-` for each
// other one.
func (m *machine) signs() string {
	signs := []byte{}
	for i := 0; i < registerCount; i++ {
		sign := byte('-')
		if m.marked[i] {
			sign = '+'
		}
		signs = append(signs, sign)
	}
	return string(signs)
}
