package words

// polynomial is that of the CRC-32 of IEEE 802.3, its lowest bit on the left.
const polynomial = 0xEDB88320

// halves tells what four steps of the register make of each half byte: sixteen words are enough, as a byte is two halves.
var halves = halfSteps()

func halfSteps() [16]uint32 {
	var table [16]uint32
	for i := range table {
		register := uint32(i)
		for range 4 {
			register = step(register)
		}
		table[i] = register
	}
	return table
}

func step(register uint32) uint32 {
	if register&1 == 1 {
		return register>>1 ^ polynomial
	}
	return register >> 1
}

// Sum is a check sum of bytes.
func Sum(b []byte) uint32 {
	register := ^uint32(0)
	for _, x := range b {
		register ^= uint32(x)
		register = register>>4 ^ halves[register&15]
		register = register>>4 ^ halves[register&15]
	}
	return ^register
}
