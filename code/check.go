package code

import (
	"slices"

	"drover/api"
	"drover/value"
)

// mostParts is how many values a tuple or a message of an instruction has at most.
const mostParts = 255

// checker is a module, and which of its functions are bodies of roles.
type checker struct {
	api.Module
	isBody []bool
}

// Check tells whether m is right.
func Check(m api.Module) api.Errno {
	if max(len(m.Consts), len(m.Tags), len(m.Fns), len(m.Roles)) > api.MaxModule {
		return api.ErrCode
	}
	c := &checker{Module: m, isBody: make([]bool, len(m.Fns))}
	// The roles are ahead of the functions: they tell which of these are bodies.
	if !all(m.Consts, value.Right) || !all(m.Roles, c.role) {
		return api.ErrCode
	}
	for i, f := range m.Fns {
		if !c.fn(f, c.isBody[i]) {
			return api.ErrCode
		}
	}
	return api.OK
}

// all tells whether each one of a list is right.
func all[T any](list []T, right func(one T) bool) bool {
	return !slices.ContainsFunc(list, func(one T) bool { return !right(one) })
}

// isPlace tells whether n is a place among so many.
func isPlace(n, many int) bool {
	return n >= 0 && n < many
}

// role tells whether a role is right beside those ahead of it, whose bodies are known; its own are known behind it.
func (c *checker) role(r api.Part) bool {
	if r.Params < 0 || r.Params > api.MaxVars {
		return false
	}
	tags := map[string]struct{}{}
	for _, on := range r.On {
		if _, ok := tags[on.Tag]; ok || !c.on(on, r.Params) {
			return false
		}
		tags[on.Tag] = struct{}{}
		c.isBody[on.Fn] = true
	}
	return true
}

// on tells whether a role of so many values may have that, and its function is not another one's body already.
func (c *checker) on(on api.On, state int) bool {
	return on.Params >= 0 && on.Params <= api.MaxVars &&
		isPlace(on.Fn, len(c.Fns)) && c.Fns[on.Fn].Params == state+on.Params && !c.isBody[on.Fn]
}

// fn tells whether a function, or a body of a role, is right.
func (c *checker) fn(f api.Fn, isBody bool) bool {
	if f.Params < 0 || f.Params > f.Vars || f.Vars > api.MaxVars {
		return false
	}
	if len(f.Code) == 0 || len(f.Code) > api.MaxCode || !isLast(f.Code[len(f.Code)-1].Op) {
		return false
	}
	return all(f.Code, func(i api.Ins) bool {
		a, b := c.bounds(i.Op, f)
		return isPlace(i.A, a) && isPlace(i.B, b) && mayStand(i.Op, isBody) && !(i.Op == api.OCall && c.isBody[i.A])
	})
}

// bounds is what A and B are below (they are from 0 on) in an instruction of f; nothing is below those of no Op.
func (c *checker) bounds(op api.Op, f api.Fn) (a, b int) {
	switch op {
	case api.OConst:
		return len(c.Consts), 1
	case api.OLoad, api.OStore:
		return f.Vars, 1
	case api.OTuple:
		return mostParts + 1, 1
	case api.OCall:
		return len(c.Fns), 1
	case api.OSpawn, api.OBecome:
		return len(c.Roles), 1
	case api.OSend:
		return len(c.Tags), mostParts + 1
	case api.OJump, api.OUnless, api.OAnd, api.OOr:
		return len(f.Code), 1
	}
	if !isOp(op) {
		return 0, 0
	}
	return 1, 1
}

// isLast tells whether nothing is done behind such an instruction, so that it may be the last one.
func isLast(op api.Op) bool {
	switch op {
	case api.OJump, api.OReturn, api.OEnd, api.OStop, api.OBecome:
		return true
	}
	return false
}

// mayStand tells whether such an instruction may stand in a body of a role, or else in another function.
func mayStand(op api.Op, inBody bool) bool {
	switch op {
	case api.OReturn:
		return !inBody
	case api.OEnd, api.OStop, api.OBecome:
		return inBody
	}
	return true
}
