package ir

import (
	"slices"

	"drover/api"
	"drover/code"
)

// What speculative code has at most, beside what package api says.
const (
	mostRegs   = 1000
	mostParts  = 255 // values of a tuple, or of a message
	mostFrames = 3   // of a way back
	mostNeeds  = 100
)

// checker is speculative code, the module that it is to be of, and which of the module's functions are bodies of roles.
type checker struct {
	m      api.Module
	f      api.Fast
	isBody []bool
}

// Check tells whether f may be speculative code of m.
func Check(m api.Module, f api.Fast) api.Errno {
	if e := code.Check(m); e != api.OK {
		return e
	}
	c := checker{m: m, f: f, isBody: bodies(m)}
	if c.head() && c.code() && all(f.Exits, c.exit) && all(f.Needs, c.need) {
		return api.OK
	}
	return api.ErrShape
}

// bodies tells of each function whether it is a role's body.
func bodies(m api.Module) []bool {
	is := make([]bool, len(m.Fns))
	for _, r := range m.Roles {
		for _, on := range r.On {
			is[on.Fn] = true
		}
	}
	return is
}

// all tells whether each one of a list is right.
func all[T any](list []T, right func(one T) bool) bool {
	return !slices.ContainsFunc(list, func(one T) bool { return !right(one) })
}

// head tells whether the code is of a body, and has neither too few registers nor too much of anything.
func (c *checker) head() bool {
	if !isPlace(c.f.Fn, len(c.m.Fns)) || !c.isBody[c.f.Fn] {
		return false
	}
	return c.f.Regs >= c.m.Fns[c.f.Fn].Vars && c.f.Regs <= mostRegs &&
		len(c.f.Code) <= api.MaxSteps && len(c.f.Exits) <= api.MaxExits && len(c.f.Needs) <= mostNeeds
}

// code tells whether each step may be, and nothing is done behind the last one.
func (c *checker) code() bool {
	if len(c.f.Code) == 0 || !isLast(c.f.Code[len(c.f.Code)-1].Op) {
		return false
	}
	may := c.byLetter()
	return all(c.f.Code, func(s api.Spec) bool {
		has := letters(s.Op)
		return has != "" && may(has[0], s.A) && may(has[1], s.B) && may(has[2], s.C) && may(has[3], s.Exit) &&
			c.areThere(s) && mayCount(s)
	})
}

// letters are what A, B, C and Exit of such a step are, a letter each (see byLetter); of no Op there are none.
func letters(op api.FOp) string {
	switch op {
	case api.FMove:
		return "rr0-"
	case api.FConst:
		return "rc0-"
	case api.FSelf:
		return "r00-"
	case api.FGuard:
		return "rk0x"
	case api.FAdd, api.FSub, api.FMul, api.FDiv, api.FMod, api.FLt, api.FLe, api.FGt, api.FGe:
		return "rrrx"
	case api.FNot:
		return "rr0x"
	case api.FEq, api.FNe:
		return "rrr-"
	case api.FJump:
		return "j00-"
	case api.FIf:
		return "jr0x"
	case api.FSend:
		return "trnx"
	case api.FTuple:
		return "rrnx"
	case api.FEnd:
		return "000-"
	case api.FOut:
		return "000x"
	}
	return ""
}

// byLetter makes what tells whether a number may stand where that letter is.
func (c *checker) byLetter() func(letter byte, n int) bool {
	return func(letter byte, n int) bool {
		switch letter {
		case 'r': // a register
			return c.isReg(n)
		case 'c': // a constant
			return isPlace(n, len(c.m.Consts))
		case 't': // a tag
			return isPlace(n, len(c.m.Tags))
		case 'k': // a kind
			return n >= int(api.VInt) && n <= int(api.VActor)
		case 'n': // how many values
			return n >= 0 && n <= mostParts
		case 'j': // a step
			return isPlace(n, len(c.f.Code))
		case 'x': // a way back
			return isPlace(n, len(c.f.Exits))
		case '-': // no way back
			return n == -1
		}
		return n == 0
	}
}

// isReg tells whether n is a register.
func (c *checker) isReg(n int) bool {
	return isPlace(n, c.f.Regs)
}

// areThere tells whether the registers that a step speaks of by B and C together are there.
func (c *checker) areThere(s api.Spec) bool {
	switch s.Op {
	case api.FSend: // the values are behind B
		return s.B+s.C < c.f.Regs
	case api.FTuple: // they are from B on
		return s.B+s.C <= c.f.Regs
	}
	return true
}

// mayCount tells whether a step counts as one may: one that jumps counts, so that whatever goes round uses steps up.
func mayCount(s api.Spec) bool {
	if s.Lead < 0 || s.Lead > api.MaxCode || s.Own < 0 || s.Own > 1 {
		return false
	}
	return s.Op != api.FJump && s.Op != api.FIf || s.Lead+s.Own >= 1
}

// isLast tells whether nothing is done behind such a step, so that it may be the last one.
func isLast(op api.FOp) bool {
	return op == api.FJump || op == api.FEnd || op == api.FOut
}

// exit tells whether a way back may be.
func (c *checker) exit(frames []api.Back) bool {
	if len(frames) == 0 || len(frames) > mostFrames || frames[0].Fn != c.f.Fn {
		return false
	}
	return c.frame(frames[0]) && all(frames[1:], func(b api.Back) bool { return c.frame(b) && !c.isBody[b.Fn] })
}

// frame tells whether such a frame can be made of the registers.
func (c *checker) frame(b api.Back) bool {
	if !isPlace(b.Fn, len(c.m.Fns)) || !isPlace(b.At, len(c.m.Fns[b.Fn].Code)) {
		return false
	}
	return len(b.Vars) == c.m.Fns[b.Fn].Vars && len(b.Stack) <= api.MaxStack && all(b.Vars, c.isReg) && all(b.Stack, c.isReg)
}

// need tells whether a need is of a function that is there.
func (c *checker) need(n api.Need) bool {
	return isPlace(n.Fn, len(c.m.Fns))
}
