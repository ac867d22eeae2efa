package phasor

// sumSize is the number of the bytes of a checksum.
const sumSize = 4

// appendNumber appends the lowest bytes of a number, the higher byte first.
func appendNumber(s []byte, n, bytes int) []byte {
	for i := range bytes {
		s = append(s, byte(n>>(8*(bytes-1-i))))
	}
	return s
}

// number returns the number whose bytes are given, the higher byte first.
func number(s []byte) int {
	n := 0
	for _, b := range s {
		n = n<<8 | int(b)
	}
	return n
}

func checksum(s []byte) int {
	x := 1
	for _, b := range s {
		x = (263*x + int(b)) % 16777199
	}
	return x
}

// sealed returns bytes with their checksum behind them.
func sealed(s []byte) []byte {
	return appendNumber(s, checksum(s), sumSize)
}

// isSealed reports whether bytes, which are no fewer than those of a checksum,
// end with the checksum of those before.
func isSealed(s []byte) bool {
	end := len(s) - sumSize
	return number(s[end:]) == checksum(s[:end])
}
