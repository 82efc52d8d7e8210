// Package field is layer 1: see shared/doc/01-field.md.
package field

import "cableway/api"

// Field is some bits of a word: how many, from which one on.
type Field struct {
	At   int
	Bits int
}

// May tells whether there is such a field: one bit at least, and all in the word.
func (f Field) May() bool {
	// At and Bits are not added up, as their sum may wrap round.
	return f.At >= 0 && f.Bits >= 1 && f.At <= api.WordBits-f.Bits
}

// Most is the greatest number of a field; 0: there is no such field.
func (f Field) Most() uint64 {
	if !f.May() {
		return 0
	}
	return ^uint64(0) >> (api.WordBits - f.Bits)
}

// mask is a field's bits, where they stand in the word; 0: there is no such field.
func (f Field) mask() uint64 {
	if !f.May() {
		return 0 // a shift by an At below 0 would panic
	}
	return f.Most() << f.At
}

// Get is a field's number in a word.
func (f Field) Get(w uint64) uint64 {
	if !f.May() {
		return 0
	}
	return (w & f.mask()) >> f.At
}

// Put is a word in which a field has a number, and all else is as it was; what is too great counts as the greatest.
func (f Field) Put(w, n uint64) uint64 {
	if !f.May() {
		return w
	}
	return w&^f.mask() | min(n, f.Most())<<f.At
}

// Fits tells whether a field can have a number.
func (f Field) Fits(n uint64) bool { return f.May() && n <= f.Most() }

// Apart tells whether fields are all there, and no two share a bit.
func Apart(l ...Field) bool {
	var taken uint64
	for _, f := range l {
		if !f.May() || taken&f.mask() != 0 {
			return false
		}
		taken |= f.mask()
	}
	return true
}

// Rest is the bits of a word that are in none of some fields.
func Rest(w uint64, l ...Field) uint64 {
	for _, f := range l {
		w &^= f.mask()
	}
	return w
}
