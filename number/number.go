// Package number has numbers as bytes, that of the greatest weight first, and as places: how many layers keep and tell them.
package number

// Read gives the number that bytes tell; of more than 8 of them, that which the last 8 tell.
func Read(b []byte) uint64 {
	var n uint64
	for _, c := range b {
		n = n<<8 | uint64(c)
	}
	return n
}

// Append gives bytes with a number of so many bytes behind them.
func Append(b []byte, n uint64, size int) []byte {
	for i := range size {
		b = append(b, byte(n>>(8*(size-1-i))))
	}
	return b
}

// Modulo gives a number as one from 0 on, below another one that is above 0: its place, where there are so many.
func Modulo(n, below int) int {
	rest := n % below
	if rest < 0 {
		rest += below
	}
	return rest
}
