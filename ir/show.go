package ir

import (
	"strconv"

	"drover/api"
)

// opWords are the Ops as words, from the first one on.
var opWords = [...]string{
	"move", "const", "self", "guard", "add", "sub", "mul", "div", "mod", "not", "eq", "ne", "lt", "le", "gt", "ge",
	"jump", "if", "send", "tuple", "end", "out",
}

// Show is s as a text.
func Show(s api.Spec) string {
	text := word(s.Op)
	for _, n := range [...]int{s.A, s.B, s.C, s.Lead, s.Own, s.Exit} {
		text += " " + strconv.Itoa(n)
	}
	return text
}

// word is an Op as a word.
func word(op api.FOp) string {
	if op < api.FMove || op > api.FOut {
		return "op" + strconv.Itoa(int(op))
	}
	return opWords[op-api.FMove]
}
