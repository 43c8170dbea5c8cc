package oauth

import (
	"strings"

	"seneschal/api"
	"seneschal/codec"
	"seneschal/forest"
)

// sizeDraw: the bytes of a draw that counts.
const sizeDraw = 16

// Tape has what is drawn, the next one first.
type Tape struct{ draws []string }

// NewTape is a tape of draws.
func NewTape(draws []string) *Tape {
	t := &Tape{}
	for _, draw := range draws[:min(len(draws), api.MaxDraws)] {
		t.draws = append(t.draws, strings.Clone(draw))
	}
	return t
}

// Raw is the next draw; Secret the next one, as a secret that no node of a forest has.
func (t *Tape) Raw() (string, api.Errno) {
	if len(t.draws) == 0 {
		return "", api.ErrDraw
	}
	draw := t.draws[0]
	t.draws = t.draws[1:]
	if len(draw) != sizeDraw {
		return "", api.ErrDraw
	}
	return strings.Clone(draw), api.OK
}

func (t *Tape) Secret(f *forest.Forest) (string, api.Errno) {
	for {
		draw, e := t.Raw()
		if e != api.OK {
			return "", e
		}
		secret := codec.Base64(draw)
		if _, there := f.Find(secret); !there {
			return secret, api.OK
		}
	}
}
