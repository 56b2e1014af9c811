// Package sha is layer 1: SHA-256. See shared/doc/01-sha.md.
package sha

import (
	"iter"
	"math/bits"

	"inspeximus/api"
)

const (
	blockSize  = 64 // bytes of a block
	lengthSize = 8  // bytes that tell a text's length, at the end of its last block
	digits     = "0123456789abcdef"
)

// Fill is what fills up a text of n bytes; none of n below 0.
func Fill(n int) []byte {
	if n < 0 {
		return nil
	}
	// n is cut to its place in a block first: n + 1 might go round.
	room := blockSize - lengthSize - n%blockSize
	if room <= 0 {
		room += blockSize
	}
	fill := make([]byte, room, room+lengthSize)
	fill[0] = 0x80
	for i := range lengthSize {
		fill = append(fill, byte(uint64(n)*8>>(56-8*i)))
	}
	return fill
}

// Turn is the state behind a block; h itself of one that hasn't 64 bytes.
func Turn(h [8]uint32, block []byte) [8]uint32 {
	if len(block) != blockSize {
		return h
	}
	turned := rounds(h, schedule(block))
	for i := range h {
		h[i] += turned[i]
	}
	return h
}

// Sum is the digest of parts, one behind the other.
func Sum(parts ...[]byte) api.Hash {
	h := api.First
	for block := range blocks(parts) {
		h = Turn(h, block)
	}
	return digest(h)
}

// Hex is a digest's 64 digits in sixteen, small letters.
func Hex(h api.Hash) string {
	text := make([]byte, 0, 2*len(h))
	for _, b := range h {
		text = append(text, digits[b>>4], digits[b&15])
	}
	return string(text)
}

// filled hands on the parts and, behind them, what fills up the text that they are.
func filled(parts [][]byte) iter.Seq[[]byte] {
	return func(yield func([]byte) bool) {
		n := 0
		for _, part := range parts {
			n += len(part)
			if !yield(part) {
				return
			}
		}
		yield(Fill(n))
	}
}

// blocks hands on the blocks of the text that is filled up. One is good only until the next: they share their memory.
func blocks(parts [][]byte) iter.Seq[[]byte] {
	return func(yield func([]byte) bool) {
		begun := make([]byte, 0, blockSize)
		for part := range filled(parts) {
			for len(part) > 0 {
				n := min(len(part), blockSize-len(begun))
				begun = append(begun, part[:n]...)
				part = part[n:]
				if len(begun) < blockSize {
					continue
				}
				if !yield(begun) {
					return
				}
				begun = begun[:0]
			}
		}
	}
}

// schedule is the numbers w of a block of 64 bytes.
func schedule(block []byte) [64]uint32 {
	var w [64]uint32
	for t := range 16 {
		for _, b := range block[4*t : 4*t+4] {
			w[t] = w[t]<<8 | uint32(b)
		}
	}
	for t := 16; t < len(w); t++ {
		w[t] = smallSigma1(w[t-2]) + w[t-7] + smallSigma0(w[t-15]) + w[t-16]
	}
	return w
}

// rounds is the numbers a to h behind all of w, not yet added to the state.
func rounds(state [8]uint32, w [64]uint32) [8]uint32 {
	a, b, c, d := state[0], state[1], state[2], state[3]
	e, f, g, h := state[4], state[5], state[6], state[7]
	for t := range w {
		t1 := h + bigSigma1(e) + choose(e, f, g) + api.K[t] + w[t]
		t2 := bigSigma0(a) + majority(a, b, c)
		h, g, f, e, d, c, b, a = g, f, e, d+t1, c, b, a, t1+t2
	}
	return [8]uint32{a, b, c, d, e, f, g, h}
}

func smallSigma0(x uint32) uint32 { return turnRight(x, 7) ^ turnRight(x, 18) ^ x>>3 }

func smallSigma1(x uint32) uint32 { return turnRight(x, 17) ^ turnRight(x, 19) ^ x>>10 }

func bigSigma0(x uint32) uint32 { return turnRight(x, 2) ^ turnRight(x, 13) ^ turnRight(x, 22) }

func bigSigma1(x uint32) uint32 { return turnRight(x, 6) ^ turnRight(x, 11) ^ turnRight(x, 25) }

func choose(e, f, g uint32) uint32 { return e&f ^ ^e&g }

func majority(a, b, c uint32) uint32 { return a&b ^ a&c ^ b&c }

func turnRight(x uint32, n int) uint32 { return bits.RotateLeft32(x, -n) }

// digest is a state as bytes.
func digest(state [8]uint32) api.Hash {
	var text api.Hash
	for i, x := range state {
		for j := range 4 {
			text[4*i+j] = byte(x >> (24 - 8*j))
		}
	}
	return text
}
