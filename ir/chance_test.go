package ir_test

import (
	"math/rand/v2"
	"testing"

	"drover/api"
	"drover/ir"
)

// may tells a second way whether f may be code of mixed: each number is held against what the chapter's table says.
func may(m api.Module, f api.Fast) bool {
	vars := map[int]int{fnG: 1, fnH: 0, fnAdd: 2, fnGet: 1, fnGo: 4, fnNil: 0}
	if f.Fn < fnAdd || f.Fn > fnNil || f.Regs < vars[f.Fn] || f.Regs > mostRegs {
		return false
	}
	if len(f.Code) < 1 || len(f.Code) > mostSteps || len(f.Exits) > mostExits || len(f.Needs) > mostNeeds {
		return false
	}
	for i, s := range f.Code {
		if !mayStep(m, f, s) {
			return false
		}
		if last := s.Op == api.FEnd || s.Op == api.FOut || s.Op == api.FJump; i == len(f.Code)-1 && !last {
			return false
		}
	}
	for _, frames := range f.Exits {
		if len(frames) < 1 || len(frames) > mostFrames {
			return false
		}
		for i, b := range frames {
			if i == 0 && b.Fn != f.Fn || i > 0 && b.Fn != fnG && b.Fn != fnH {
				return false
			}
			if b.At < 0 || b.At >= len(m.Fns[b.Fn].Code) || len(b.Vars) != vars[b.Fn] || len(b.Stack) > mostStack {
				return false
			}
			for _, r := range append(append([]int{}, b.Vars...), b.Stack...) {
				if r < 0 || r >= f.Regs {
					return false
				}
			}
		}
	}
	for _, n := range f.Needs {
		if n.Fn < 0 || n.Fn >= manyFns {
			return false
		}
	}
	return true
}

// mayStep tells whether a step may be.
func mayStep(m api.Module, f api.Fast, s api.Spec) bool {
	in := func(n, end int) bool { return 0 <= n && n < end }
	reg := func(n int) bool { return in(n, f.Regs) }
	way, noWay := in(s.Exit, len(f.Exits)), s.Exit == -1
	if s.Lead < 0 || s.Lead > mostLead || s.Own < 0 || s.Own > 1 {
		return false
	}
	switch s.Op {
	case api.FMove:
		return reg(s.A) && reg(s.B) && s.C == 0 && noWay
	case api.FConst:
		return reg(s.A) && in(s.B, len(m.Consts)) && s.C == 0 && noWay
	case api.FSelf:
		return reg(s.A) && s.B == 0 && s.C == 0 && noWay
	case api.FGuard:
		return reg(s.A) && in(s.B-1, 5) && s.C == 0 && way
	case api.FNot:
		return reg(s.A) && reg(s.B) && s.C == 0 && way
	case api.FEq, api.FNe:
		return reg(s.A) && reg(s.B) && reg(s.C) && noWay
	case api.FJump:
		return in(s.A, len(f.Code)) && s.B == 0 && s.C == 0 && noWay && s.Lead+s.Own > 0
	case api.FIf:
		return in(s.A, len(f.Code)) && reg(s.B) && s.C == 0 && way && s.Lead+s.Own > 0
	case api.FSend:
		return in(s.A, len(m.Tags)) && reg(s.B) && in(s.C, 256) && reg(s.B+s.C) && way
	case api.FTuple:
		return reg(s.A) && reg(s.B) && in(s.C, 256) && s.B+s.C <= f.Regs && way
	case api.FEnd:
		return s.A == 0 && s.B == 0 && s.C == 0 && noWay
	case api.FOut:
		return s.A == 0 && s.B == 0 && s.C == 0 && way
	}
	return s.Op >= api.FAdd && s.Op <= api.FGe && reg(s.A) && reg(s.B) && reg(s.C) && way
}

// likely is code by chance of which all is mostly as it may be.
func likely(r *rand.Rand, m api.Module) api.Fast {
	vars := []int{1, 0, 2, 1, 4, 0}
	f := api.Fast{Fn: fnAdd + r.IntN(4), Regs: 5 + r.IntN(8)}
	place := func(n int) int { return r.IntN(n) }
	regs := func(n int) []int {
		all := make([]int, n)
		for i := range all {
			all[i] = place(f.Regs)
		}
		return all
	}
	for range 1 + r.IntN(3) {
		frames := []api.Back{{Fn: f.Fn}, {Fn: place(2)}, {Fn: place(2)}}[:1+place(3)]
		for i, b := range frames {
			frames[i] = api.Back{Fn: b.Fn, At: place(len(m.Fns[b.Fn].Code)), Vars: regs(vars[b.Fn]), Stack: regs(place(4))}
		}
		f.Exits = append(f.Exits, frames)
	}
	steps := 1 + r.IntN(6)
	for range steps {
		rows := rows()
		s := rows[place(len(rows))].s
		s.Lead, s.Own = place(3), 1
		switch s.Op {
		case api.FJump, api.FIf:
			s.A = place(steps)
		case api.FSend, api.FTuple:
			s.B, s.C = place(4), place(3)
		}
		if s.Exit >= 0 {
			s.Exit = place(len(f.Exits))
		}
		f.Code = append(f.Code, s)
	}
	if r.IntN(4) > 0 {
		f.Code[steps-1] = end()
	}
	for range r.IntN(3) {
		f.Needs = append(f.Needs, api.Need{Fn: place(manyFns), Sum: r.Uint32()})
	}
	return f
}

// spoiled is f with one number another one.
func spoiled(r *rand.Rand, f api.Fast) api.Fast {
	nums := []*int{&f.Fn, &f.Regs}
	for i := range f.Code {
		s := &f.Code[i]
		nums = append(nums, &s.A, &s.B, &s.C, &s.Lead, &s.Own, &s.Exit)
	}
	for _, frames := range f.Exits {
		for i := range frames {
			nums = append(nums, &frames[i].Fn, &frames[i].At)
			for _, list := range [][]int{frames[i].Vars, frames[i].Stack} {
				for k := range list {
					nums = append(nums, &list[k])
				}
			}
		}
	}
	for i := range f.Needs {
		nums = append(nums, &f.Needs[i].Fn)
	}
	n := nums[r.IntN(len(nums))]
	*n += []int{-2, -1, 1, 2, 5, 1 << 14}[r.IntN(6)]
	if r.IntN(6) == 0 {
		f.Code[r.IntN(len(f.Code))].Op = api.FOp(r.IntN(25))
	}
	return f
}

// P14.2: code by chance, spoiled or not, against a second way.
func TestCheckChance(t *testing.T) {
	r := rand.New(rand.NewPCG(14, 2))
	m := compiled(t, mixed)
	count := map[bool]int{}
	for range 30000 {
		f := likely(r, m)
		for range r.IntN(3) {
			f = spoiled(r, f)
		}
		want := may(m, f)
		count[want]++
		wantCheck(t, "by chance", m, f, want)
		if t.Failed() {
			return
		}
		if want { // code that may be can be told
			wantBytes(t, "by chance", f, written(f)...)
		}
	}
	if count[true] < 5000 || count[false] < 5000 {
		t.Error(count)
	}
	if ir.Check(m, api.Fast{}) != api.ErrShape {
		t.Error("nothing")
	}
}
