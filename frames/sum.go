package frames

// turned is the polynomial of CRC-32, its bits in the order in which they fall out.
const turned = 0xEDB88320

// sum is the CRC-32 of bytes. Frames are short, so it goes bit by bit and needs no table.
func sum(b []byte) uint32 {
	s := ^uint32(0)
	for _, v := range b {
		s ^= uint32(v)
		for range 8 {
			s = s>>1 ^ turned*(s&1)
		}
	}
	return ^s
}
