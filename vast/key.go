package vast

// Key tells fractions apart: equal ones have equal keys.
type Key struct {
	size, denominator string
	negative          bool
}

// Key returns the key of f.
func (f Fraction) Key() Key {
	return Key{f.size.octets(), f.denominator.octets(), f.negative}
}

// octets returns the octets of the words of m.
func (m natural) octets() string {
	text := make([]byte, 0, len(m)*wordBits/8)
	for _, word := range m {
		for shift := 0; shift < wordBits; shift += 8 {
			text = append(text, byte(word>>shift))
		}
	}
	return string(text)
}
