// Package words knows the words of the grammar of sources, which are no names of declarations.
package words

// Is reports whether a string is a word in quotes of the grammar (shared/doc/16-syntax.md).
func Is(s string) bool {
	switch s {
	case "district", "season", "reservoir", "holds", "let", "crop", "needs", "reach", "from", "delay", "capacity", "bank", "siphon",
		"evaporation", "to", "seepage", "farm", "on", "river", "area", "rotation", "rank", "flow", "turn", "for", "take", "of", "every",
		"own", "easement", "duty", "by", "l", "m3", "h", "d", "a":
		return true
	}
	return false
}
