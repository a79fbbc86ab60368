package words

import "testing"

// The words of the grammar are no names; they are compared to the letter.
func TestIs(t *testing.T) {
	for _, w := range []string{"district", "season", "reservoir", "holds", "let", "crop", "needs", "reach", "from", "delay", "capacity", "bank", "siphon", "evaporation", "to", "seepage", "farm", "on", "river", "area", "rotation", "rank", "flow", "turn", "for", "take", "of", "every", "own", "easement", "duty", "by", "l", "m3", "h", "d", "a"} {
		if !Is(w) || Is(w+"x") || Is("x"+w) {
			t.Errorf("%q", w)
		}
	}
	for _, w := range []string{"", "District", "m", "m2", "L", "world", "right"} {
		if Is(w) {
			t.Errorf("%q", w)
		}
	}
}
