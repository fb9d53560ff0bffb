package tests

import (
	"slices"
	"testing"

	"loop.example/g00056/impl"
)

// The chapter's words, said of the slots that stand ahead alone: nothing is noted
// from slot to slot.

func exactSoonest(ahead []impl.Slot, job, machine int) int {
	soonest := 0
	for _, slot := range ahead {
		if slot.Job == job || slot.Machine == machine {
			soonest = max(soonest, slot.To)
		}
	}
	return soonest
}

func exactFresh(s impl.Shop, jobs []impl.Job, ahead []impl.Slot, step impl.Step) bool {
	var since []impl.Step
	for _, slot := range ahead {
		if slot.Machine != step.Machine {
			continue
		}
		if slot.Fresh {
			since = nil
		}
		since = append(since, jobs[slot.Job].Steps[slot.Step])
	}
	if len(since) == 0 || since[len(since)-1].Tool != step.Tool {
		return true
	}
	wear := step.Wear
	for _, one := range since {
		wear += one.Wear
	}
	return wear > s.Life
}

func exactTo(s impl.Shop, step impl.Step, from int, fresh bool) int {
	if fresh {
		return from + s.Setup + step.Time
	}
	return from + step.Time
}

// exactSlot is a job's next step, begun so much later than it can.
func exactSlot(s impl.Shop, jobs []impl.Job, ahead []impl.Slot, job, later int) (impl.Slot, bool) {
	number := 0
	for _, slot := range ahead {
		if slot.Job == job {
			number++
		}
	}
	if number == len(jobs[job].Steps) {
		return impl.Slot{}, false
	}
	step := jobs[job].Steps[number]
	from, fresh := exactSoonest(ahead, job, step.Machine)+later, exactFresh(s, jobs, ahead, step)
	return impl.Slot{Job: job, Step: number, Machine: step.Machine, From: from, To: exactTo(s, step, from, fresh), Fresh: fresh}, true
}

func exactPlan(s impl.Shop, jobs []impl.Job) []impl.Slot {
	var plan []impl.Slot
	for {
		var best impl.Slot
		found := false
		for job := range jobs {
			slot, left := exactSlot(s, jobs, plan, job, 0)
			if left && (!found || slot.From < best.From || slot.From == best.From && jobs[job].Due < jobs[best.Job].Due) {
				best, found = slot, true
			}
		}
		if !found {
			return plan
		}
		plan = append(plan, best)
	}
}

func exactSlotCode(s impl.Shop, jobs []impl.Job, ahead []impl.Slot, slot impl.Slot) int {
	if slot.Job < 0 || slot.Job >= len(jobs) || slot.Step < 0 || slot.Step >= len(jobs[slot.Job].Steps) {
		return impl.ErrNone
	}
	step := jobs[slot.Job].Steps[slot.Step]
	if slot.Machine != step.Machine {
		return impl.ErrNone
	}
	stood := func(number int) bool {
		return slices.ContainsFunc(ahead, func(other impl.Slot) bool { return other.Job == slot.Job && other.Step == number })
	}
	switch {
	case stood(slot.Step):
		return impl.ErrTwice
	case slot.From < 0 || slot.From > 1000000000:
		return impl.ErrRange
	case slot.Step > 0 && !stood(slot.Step-1):
		return impl.ErrState
	}
	for _, other := range ahead {
		if (other.Machine == slot.Machine || other.Job == slot.Job && other.Step == slot.Step-1) && other.To > slot.From {
			return impl.ErrState
		}
	}
	switch {
	case slot.Fresh != exactFresh(s, jobs, ahead, step):
		return impl.ErrGouge
	case slot.To != exactTo(s, step, slot.From, slot.Fresh):
		return impl.ErrSum
	}
	return impl.OK
}

// exactPlanCode: of a right shop and of a plan that is not too long.
func exactPlanCode(s impl.Shop, jobs []impl.Job, plan []impl.Slot) (int, int) {
	for number, slot := range plan {
		if code := exactSlotCode(s, jobs, plan[:number], slot); code != impl.OK {
			return code, number
		}
	}
	for job := range jobs {
		if _, left := exactSlot(s, jobs, plan, job, 0); left {
			return impl.ErrFull, len(plan)
		}
	}
	return impl.OK, 0
}

// exactLedger: of a right plan.
func exactLedger(s impl.Shop, jobs []impl.Job, plan []impl.Slot) impl.Ledger {
	books := impl.Ledger{Busy: make([]int, s.Machines)}
	for machine := range books.Busy {
		for _, slot := range plan {
			if slot.Machine == machine {
				books.Busy[machine] += slot.To - slot.From
			}
		}
	}
	for _, slot := range plan {
		books.End = max(books.End, slot.To)
		if slot.Fresh {
			books.Tools++
		}
		job := jobs[slot.Job]
		if slot.Step == len(job.Steps)-1 && slot.To > job.Due {
			books.Late += slot.To - job.Due
		}
	}
	books.Setups = books.Tools * s.Setup
	return books
}

func exactBound(s impl.Shop, jobs []impl.Job) int {
	bound := 0
	for _, job := range jobs {
		times := 0
		for _, step := range job.Steps {
			times += step.Time
		}
		bound = max(bound, times)
	}
	for machine := range s.Machines {
		times, tools := 0, map[int]int{}
		for _, job := range jobs {
			for _, step := range job.Steps {
				if step.Machine == machine {
					times += step.Time
					tools[step.Tool]++
				}
			}
		}
		bound = max(bound, times+len(tools)*s.Setup)
	}
	return bound
}

func sameLedger(a, b impl.Ledger) bool {
	return a.End == b.End && a.Late == b.Late && a.Setups == b.Setups && a.Tools == b.Tools && slices.Equal(a.Busy, b.Busy)
}

// checkPlanCode: both functions that take a plan do what the words say of it.
func checkPlanCode(t *testing.T, s impl.Shop, jobs []impl.Job, plan []impl.Slot) (int, int) {
	t.Helper()
	want, wantNumber := exactPlanCode(s, jobs, plan)
	code, number := impl.PlanCode(s, jobs, plan)
	if code != want || number != wantNumber {
		t.Fatal("PlanCode", s, jobs, plan, code, number, "not", want, wantNumber)
	}
	books, booksCode := impl.LedgerOf(s, jobs, plan)
	if booksCode != want || want != impl.OK && !noLedger(books) {
		t.Fatal("LedgerOf", s, jobs, plan, books, booksCode, "not", want)
	}
	if want == impl.OK && !sameLedger(books, exactLedger(s, jobs, plan)) {
		t.Fatal("LedgerOf", s, jobs, plan, books, "not", exactLedger(s, jobs, plan))
	}
	return code, number
}

// checkBound: the words' number, and no plan that is right ends below it.
func checkBound(t *testing.T, s impl.Shop, jobs []impl.Job, plan []impl.Slot) int {
	t.Helper()
	bound, code := impl.Bound(s, jobs)
	if code != impl.OK || bound != exactBound(s, jobs) {
		t.Fatal("Bound", s, jobs, bound, code, "not", exactBound(s, jobs))
	}
	if books, _ := impl.LedgerOf(s, jobs, plan); books.End < bound {
		t.Fatal("a plan ends below its bound", s, jobs, plan, books.End, bound)
	}
	return bound
}

// checkOnce: each step of each job stands there just once.
func checkOnce(t *testing.T, jobs []impl.Job, plan []impl.Slot) {
	t.Helper()
	count, steps := map[[2]int]int{}, 0
	for _, slot := range plan {
		count[[2]int{slot.Job, slot.Step}]++
	}
	for job := range jobs {
		steps += len(jobs[job].Steps)
		for step := range jobs[job].Steps {
			if count[[2]int{job, step}] != 1 {
				t.Fatal("of the job", job, "the step", step, "stands there", count[[2]int{job, step}], "times", jobs, plan)
			}
		}
	}
	if len(plan) != steps {
		t.Fatal("a plan of", len(plan), "slots of", steps, "steps")
	}
}

// checkPlan: of a right shop, that all five functions do what the words say.
func checkPlan(t *testing.T, s impl.Shop, jobs []impl.Job) []impl.Slot {
	t.Helper()
	if !impl.ShopOK(s, jobs) {
		t.Fatal("ShopOK is false", s, jobs)
	}
	plan, code := impl.Plan(s, jobs)
	if want := exactPlan(s, jobs); code != impl.OK || !slices.Equal(plan, want) {
		t.Fatal("Plan", s, jobs, plan, code, "not", want)
	}
	checkOnce(t, jobs, plan)
	if code, _ := checkPlanCode(t, s, jobs, plan); code != impl.OK {
		t.Fatal("PlanCode does not take a plan", s, jobs, plan, code)
	}
	checkBound(t, s, jobs, plan)
	return plan
}
