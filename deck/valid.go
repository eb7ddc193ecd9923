package deck

import (
	"anvil/api"
	"anvil/valid"
)

// allFlags is every right that a part can have.
const allFlags = api.R | api.W | api.X

// isValid tells whether a deck can be played, and its parts' rights can be told.
func isValid(d api.Deck) bool {
	if !valid.Deck(d) {
		return false
	}
	for _, p := range d.Parts {
		if p.Flags < 0 || p.Flags > allFlags {
			return false
		}
	}
	return true
}
