package checksum

// The parameters of FNV-1a for 64 bits.
const (
	hashStart  = 14695981039346656037
	hashFactor = 1099511628211
)

// Hash returns the FNV-1a hash of s.
func Hash(s string) uint64 {
	return absorb(hashStart, s)
}

// Chain returns the hash of a record s that follows records with the hash prev. The length in it tells apart records
// that are cut at different places.
func Chain(prev uint64, s string) uint64 {
	hash := absorb(hashStart, lowBytes(prev, 8))
	hash = absorb(hash, lowBytes(uint64(len(s)), 8))
	return absorb(hash, s)
}

// absorb returns the hash after the hash steps for all bytes of s.
func absorb(hash uint64, s string) uint64 {
	for i := range len(s) {
		hash = (hash ^ uint64(s[i])) * hashFactor
	}
	return hash
}

// lowBytes returns the count lowest bytes of x, least significant byte first.
func lowBytes(x uint64, count int) string {
	low := make([]byte, count)
	for i := range low {
		low[i] = byte(x)
		x >>= 8
	}
	return string(low)
}
