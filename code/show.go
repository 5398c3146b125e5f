package code

import (
	"strconv"

	"drover/api"
)

// opWords are the Ops as words, from the first one on.
var opWords = [...]string{
	"const", "load", "store", "add", "sub", "mul", "div", "mod", "neg", "not", "eq", "ne", "lt", "le", "gt", "ge", "cat",
	"at", "len", "tuple", "self", "call", "spawn", "send", "become", "stop", "jump", "unless", "and", "or", "truth", "pop", "return", "end",
}

// Show is i as a text.
func Show(i api.Ins) string {
	return word(i.Op) + " " + strconv.Itoa(i.A) + " " + strconv.Itoa(i.B)
}

// word is an Op as a word.
func word(op api.Op) string {
	if !isOp(op) {
		return "op" + strconv.Itoa(int(op))
	}
	return opWords[op-api.OConst]
}

// isOp tells whether that is an Op.
func isOp(op api.Op) bool {
	return op >= api.OConst && op <= api.OEnd
}
