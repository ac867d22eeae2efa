// Package phasor is layer 1: see shared/doc/01-phasor.md.
//
// It has what all other layers use: names, ratios and samples, the numbers in
// which three phases live, their components and spectra, and the telegrams and
// records in which stations tell each other what they measured.
package phasor

import "bipole/api"

// Limits of numbers, and the form of frames.
const (
	MaxPhase     = 1 << 16
	MaxTurn      = 1000000
	MaxTelegrams = 1024
	Size         = 16
	Mark         = 177
)

// Phases is the numbers of three phases.
type Phases [3]api.Eisen

// Telegram is what a station tells another one.
type Telegram struct {
	Source  int
	Counter int
	Values  [4]int
}

// Record is samples with a name.
type Record struct {
	Name    string
	Samples []float32
}
