package opt

import (
	"slices"

	"drover/api"
)

// depths is what Depths tells, of a function that is there, in a module that is right.
func depths(m api.Module, fn int) []int {
	instructions := m.Fns[fn].Code
	all := slices.Repeat([]int{-1}, len(instructions))
	var work []int
	shaped := true
	reach := func(at, depth int) {
		if all[at] < 0 {
			all[at] = depth
			work = append(work, at)
		}
		shaped = shaped && all[at] == depth && depth <= api.MaxStack
	}
	reach(0, 0)
	for len(work) > 0 {
		at := work[len(work)-1]
		work = work[:len(work)-1]
		if takes, _ := takesAndPuts(m, instructions[at]); takes > all[at] {
			return nil
		}
		behind(m, instructions[at], at, all[at], reach)
		if !shaped {
			return nil
		}
	}
	return all
}

// behind tells reach what comes behind the instruction at a place, and how many values are on the stack there; depth is how many there are ahead of it.
func behind(m api.Module, i api.Ins, at, depth int, reach func(at, depth int)) {
	takes, puts := takesAndPuts(m, i)
	left := depth - takes + puts
	switch i.Op {
	case api.OEnd, api.OStop, api.OBecome, api.OReturn:
		return
	case api.OJump:
		reach(i.A, left)
		return
	case api.OUnless:
		reach(i.A, left)
	case api.OAnd, api.OOr: // the value stays where they lead to
		reach(i.A, depth)
	}
	reach(at+1, left)
}

// takesAndPuts is how many values an instruction takes, and how many it puts ahead of the next one.
func takesAndPuts(m api.Module, i api.Ins) (takes, puts int) {
	switch i.Op {
	case api.OConst, api.OLoad, api.OSelf:
		return 0, 1
	case api.OJump, api.OEnd, api.OStop:
		return 0, 0
	case api.OStore, api.OPop, api.OUnless, api.OAnd, api.OOr, api.OReturn:
		return 1, 0
	case api.ONeg, api.ONot, api.OLen, api.OTruth:
		return 1, 1
	case api.OTuple:
		return i.A, 1
	case api.OCall:
		return m.Fns[i.A].Params, 1
	case api.OSpawn:
		return m.Roles[i.A].Params, 1
	case api.OSend:
		return i.B + 1, 0
	case api.OBecome:
		return m.Roles[i.A].Params, 0
	}
	return 2, 1
}
