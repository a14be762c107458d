package wire

// allBits is what the register of the checksum is at first, and what inverts it at the end.
const allBits = 0xFFFFFFFF

// sumTable says with what the register is XORed when its lowest four bits, the index, are shifted out one after the other.
var sumTable = [16]uint32{
	0x00000000, 0x105EC76F, 0x20BD8EDE, 0x30E349B1,
	0x417B1DBC, 0x5125DAD3, 0x61C69362, 0x7198540D,
	0x82F63B78, 0x92A8FC17, 0xA24BB5A6, 0xB21572C9,
	0xC38D26C4, 0xD3D3E1AB, 0xE330A81A, 0xF36E6F75,
}

// Sum returns the CRC-32C checksum of s, from 0 to 4294967295.
func Sum(s string) int {
	register := uint32(allBits)
	for i := range len(s) {
		register = shiftFour(register ^ uint32(s[i]))
		register = shiftFour(register)
	}
	return int(register ^ allBits)
}

// shiftFour shifts four bits out of the register.
func shiftFour(register uint32) uint32 {
	return register>>4 ^ sumTable[register%16]
}
