package tests

import (
	"slices"
	"testing"

	"loop.example/g00056/impl"
)

// A shop in which each fault can come up, and a right plan of it that is not the
// one that is made: the machine 1 stands still for a while.
const (
	codedJobs = "a 20 0/5/1/6 1/4/2/1; b 10 0/2/1/5 0/1/1/5"
	codedPlan = "1.0@0:0-5* 1.1@0:5-6 0.0@0:7-15* 0.1@1:20-27*"
)

func codedShop() impl.Shop { return shopOf(2, 3, 10) }

func checkPlanCodeTold(t *testing.T, s impl.Shop, told, slots string, code, number int) {
	t.Helper()
	jobs, plan := jobsTold(t, told), slotsTold(t, slots)
	if got, gotNumber := impl.PlanCode(s, jobs, plan); got != code || gotNumber != number {
		t.Error("PlanCode", s, told, slots, got, gotNumber, "not", code, number)
	}
	checkPlanCode(t, s, jobs, plan)
}

func checkCoded(t *testing.T, slots string, code, number int) {
	t.Helper()
	checkPlanCodeTold(t, codedShop(), codedJobs, slots, code, number)
}

func TestPlansThatAreRight(t *testing.T) {
	checkCoded(t, codedPlan, impl.OK, 0)
	checkCoded(t, "0.0@0:0-8* 0.1@1:8-15* 1.0@0:8-13* 1.1@0:13-14", impl.OK, 0)
	checkCoded(t, "0.0@0:0-8* 1.0@0:8-13* 1.1@0:13-14 0.1@1:8-15*", impl.OK, 0)
	checkCoded(t, "0.0@0:0-8* 0.1@1:1000-1007* 1.0@0:9-14* 1.1@0:999999-1000000", impl.OK, 0)
	checkPlanCodeTold(t, codedShop(), "", "", impl.OK, 0)
	// what begins later may stand ahead, on another machine
	checkPlanCodeTold(t, shopOf(2, 0, 1), "a 0 0/1/0/0; b 0 1/1/0/0", "0.0@0:5-6* 1.0@1:0-1*", impl.OK, 0)
}

func TestPlanCodeOfNoSuchStep(t *testing.T) {
	plan := slotsTold(t, codedPlan)
	jobs := jobsTold(t, codedJobs)
	for at, slot := range plan {
		spoil := func(change func(*impl.Slot, int), right func(int) bool) {
			t.Helper()
			for _, n := range []int{least, least + 1, -1 << 32, -2, -1, 0, 1, 2, 3, 5, 6, 8, 1 << 32, 1<<32 + 1, greatest - 1, greatest} {
				spoilt := slices.Clone(plan)
				change(&spoilt[at], n)
				if code, number := checkPlanCode(t, codedShop(), jobs, spoilt); !right(n) && (code != impl.ErrNone || number != at) {
					t.Error("PlanCode", spoilt, code, number)
				}
			}
		}
		within := func(n int) bool { return n == 0 || n == 1 }
		spoil(func(s *impl.Slot, n int) { s.Job = n }, within)
		spoil(func(s *impl.Slot, n int) { s.Step = n }, within)
		spoil(func(s *impl.Slot, n int) { s.Machine = n }, func(n int) bool { return n == slot.Machine })
	}
	// the job has fewer steps than another one
	checkPlanCodeTold(t, shopOf(1, 0, 1), "a 0 0/1/0/0; b 0 0/1/0/0 0/1/0/0", "0.0@0:0-1* 0.1@0:1-2", impl.ErrNone, 1)
	checkPlanCodeTold(t, shopOf(1, 0, 1), "", "0.0@0:0-1*", impl.ErrNone, 0)
	checkPlanCodeTold(t, shopOf(3, 0, 1), "a 0 1/1/0/0", "0.0@0:0-1*", impl.ErrNone, 0)
	checkPlanCodeTold(t, shopOf(3, 0, 1), "a 0 1/1/0/0", "0.0@2:0-1*", impl.ErrNone, 0)
	checkPlanCodeTold(t, shopOf(3, 0, 1), "a 0 1/1/0/0", "0.0@3:0-1*", impl.ErrNone, 0)
	checkPlanCodeTold(t, shopOf(3, 0, 1), "a 0 1/1/0/0", "0.0@1:0-1*", impl.OK, 0)
}

func TestPlanCodeOfStepsThatStoodAhead(t *testing.T) {
	checkCoded(t, "1.0@0:0-5* 1.0@0:0-5*", impl.ErrTwice, 1)
	checkCoded(t, "1.0@0:0-5* 1.0@0:5-7", impl.ErrTwice, 1)
	checkCoded(t, "1.0@0:0-5* 1.1@0:5-6 1.0@0:6-8", impl.ErrTwice, 2)
	checkCoded(t, "1.0@0:0-5* 1.1@0:5-6 1.1@0:6-7", impl.ErrTwice, 2)
	checkCoded(t, codedPlan+" 1.0@0:15-17", impl.ErrTwice, 4)
	checkCoded(t, codedPlan+" 0.1@1:27-31", impl.ErrTwice, 4)
	checkCoded(t, codedPlan+" "+codedPlan, impl.ErrTwice, 4)
}

func TestPlanCodeByFrom(t *testing.T) {
	one := "a 0 0/5/1/6"
	checkPlanCodeTold(t, codedShop(), one, "0.0@0:0-8*", impl.OK, 0)
	checkPlanCodeTold(t, codedShop(), one, "0.0@0:1000000000-1000000008*", impl.OK, 0)
	for _, slots := range []string{
		"0.0@0:-1-7*", "0.0@0:-2-6*", "0.0@0:1000000001-1000000009*", "0.0@0:1000000002-1000000010*", "0.0@0:4294967296-4294967304*",
		"0.0@0:-9223372036854775808--9223372036854775800*", "0.0@0:9223372036854775807-9223372036854775807*", "0.0@0:9223372036854775807--9223372036854775801*", "0.0@0:9223372036854775800-9223372036854775807",
	} {
		checkPlanCodeTold(t, codedShop(), one, slots, impl.ErrRange, 0)
	}
	checkCoded(t, "1.0@0:0-5* 1.1@0:-1-0 0.0@0:7-15*", impl.ErrRange, 1)
	checkCoded(t, "1.0@0:0-5* 1.1@0:5-6 0.0@0:7-15* 0.1@1:1000000000-1000000007*", impl.OK, 0)
	checkCoded(t, "1.0@0:0-5* 1.1@0:5-6 0.0@0:7-15* 0.1@1:1000000001-1000000008*", impl.ErrRange, 3)
	// behind what begins last of all nothing can begin on that machine
	checkCoded(t, "1.0@0:1000000000-1000000005* 1.1@0:1000000005-1000000006", impl.ErrRange, 1)
	checkCoded(t, "1.0@0:1000000000-1000000005* 1.1@0:1000000000-1000000001", impl.ErrState, 1)
}

func TestPlanCodeOfWhatBeginsTooSoon(t *testing.T) {
	// by the job: its step ahead ends at 15
	checkCoded(t, "1.0@0:0-5* 1.1@0:5-6 0.0@0:7-15* 0.1@1:15-22*", impl.OK, 0)
	checkCoded(t, "1.0@0:0-5* 1.1@0:5-6 0.0@0:7-15* 0.1@1:14-21*", impl.ErrState, 3)
	checkCoded(t, "1.0@0:0-5* 1.1@0:5-6 0.0@0:7-15* 0.1@1:0-7*", impl.ErrState, 3)
	// by the machine: its last one ends at 6
	checkCoded(t, "1.0@0:0-5* 1.1@0:5-6 0.0@0:6-14* 0.1@1:20-27*", impl.OK, 0)
	checkCoded(t, "1.0@0:0-5* 1.1@0:5-6 0.0@0:5-13* 0.1@1:20-27*", impl.ErrState, 2)
	checkCoded(t, "1.0@0:0-5* 1.1@0:5-6 0.0@0:0-8* 0.1@1:20-27*", impl.ErrState, 2)
	// by both
	checkCoded(t, "1.0@0:0-5* 1.1@0:4-5", impl.ErrState, 1)
	checkCoded(t, "1.0@0:3-8* 1.1@0:3-4", impl.ErrState, 1)
	checkCoded(t, "1.0@0:3-8* 1.1@0:0-1", impl.ErrState, 1)
	// a gap ahead of what stands ahead is no room
	checkCoded(t, "1.0@0:100-105* 0.0@0:0-8*", impl.ErrState, 1)
	// the step ahead stands behind, or nowhere
	checkCoded(t, "1.1@0:5-9* 1.0@0:0-5*", impl.ErrState, 0)
	checkCoded(t, "0.1@1:20-27*", impl.ErrState, 0)
	checkCoded(t, "1.0@0:0-5* 0.1@1:20-27* 0.0@0:7-15* 1.1@0:15-16", impl.ErrState, 1)
	three := "a 0 0/1/0/0 1/1/0/0 2/1/0/0"
	checkPlanCodeTold(t, shopOf(3, 0, 1), three, "0.0@0:0-1* 0.1@1:1-2* 0.2@2:2-3*", impl.OK, 0)
	checkPlanCodeTold(t, shopOf(3, 0, 1), three, "0.0@0:0-1* 0.2@2:2-3* 0.1@1:1-2*", impl.ErrState, 1)
	checkPlanCodeTold(t, shopOf(3, 0, 1), three, "0.0@0:0-1* 0.1@1:5-6* 0.2@2:1-2*", impl.ErrState, 2)
	checkPlanCodeTold(t, shopOf(3, 0, 1), three, "0.0@0:0-1* 0.1@1:5-6* 0.2@2:5-6*", impl.ErrState, 2)
	// jobs and machines that have nothing to do with it
	checkPlanCodeTold(t, shopOf(2, 0, 1), "a 0 0/9/0/0; b 0 1/1/0/0", "0.0@0:0-9* 1.0@1:0-1*", impl.OK, 0)
}

func TestPlanCodeByFresh(t *testing.T) {
	// the first step of a machine
	checkCoded(t, "1.0@0:0-2", impl.ErrGouge, 0)
	checkCoded(t, "1.0@0:0-5", impl.ErrGouge, 0)
	checkPlanCodeTold(t, shopOf(1, 3, 10), "a 0 0/2/0/0", "0.0@0:0-2", impl.ErrGouge, 0)
	checkPlanCodeTold(t, shopOf(1, 3, 10), "a 0 0/2/0/0", "0.0@0:0-5*", impl.OK, 0)
	// the same tool, not worn by it
	checkCoded(t, "1.0@0:0-5* 1.1@0:5-9*", impl.ErrGouge, 1)
	checkCoded(t, "1.0@0:0-5* 1.1@0:5-6*", impl.ErrGouge, 1)
	// worn
	checkCoded(t, "1.0@0:0-5* 1.1@0:5-6 0.0@0:6-11", impl.ErrGouge, 2)
	checkCoded(t, "1.0@0:0-5* 0.0@0:5-10", impl.ErrGouge, 1)
	checkCoded(t, "1.0@0:0-5* 0.0@0:5-13* 1.1@0:13-14", impl.ErrGouge, 2)
	checkCoded(t, "1.0@0:0-5* 0.0@0:5-13* 1.1@0:13-17* 0.1@1:13-20*", impl.OK, 0)
	// another tool, and that of ahead again
	tools := "a 0 0/1/1/1 0/1/2/1 0/1/1/1"
	checkPlanCodeTold(t, shopOf(1, 1, 9), tools, "0.0@0:0-2* 0.1@0:2-4* 0.2@0:4-6*", impl.OK, 0)
	checkPlanCodeTold(t, shopOf(1, 1, 9), tools, "0.0@0:0-2* 0.1@0:2-3", impl.ErrGouge, 1)
	checkPlanCodeTold(t, shopOf(1, 1, 9), tools, "0.0@0:0-2* 0.1@0:2-4* 0.2@0:4-5", impl.ErrGouge, 2)
	// Setup of 0: Fresh has to be told all the same
	checkPlanCodeTold(t, shopOf(1, 0, 9), tools, "0.0@0:0-1* 0.1@0:1-2* 0.2@0:2-3*", impl.OK, 0)
	checkPlanCodeTold(t, shopOf(1, 0, 9), tools, "0.0@0:0-1* 0.1@0:1-2 0.2@0:2-3*", impl.ErrGouge, 1)
	checkPlanCodeTold(t, shopOf(1, 0, 9), "a 0 0/1/1/1 0/1/1/1", "0.0@0:0-1* 0.1@0:1-2*", impl.ErrGouge, 1)
	// by the slots that stand ahead, not by those that begin sooner; machines apart
	checkPlanCodeTold(t, shopOf(2, 1, 9), "a 0 0/1/1/1; b 0 1/1/1/1", "0.0@0:0-2* 1.0@1:0-1", impl.ErrGouge, 1)
	checkPlanCodeTold(t, shopOf(2, 1, 2), "a 0 0/1/1/1 1/1/1/1 0/1/1/1", "0.0@0:0-2* 0.1@1:2-4* 0.2@0:4-5", impl.OK, 0)
}

func TestPlanCodeByTo(t *testing.T) {
	for _, to := range []int{least, least + 1, -1 << 32, -1, 0, 6, 7, 12, 13, 14, 16, 18, 1<<32 + 15, greatest - 1, greatest} {
		plan := slotsTold(t, codedPlan)
		plan[2].To = to
		if code, number := checkPlanCode(t, codedShop(), jobsTold(t, codedJobs), plan); code != impl.ErrSum || number != 2 {
			t.Error("PlanCode", plan, code, number)
		}
	}
	checkCoded(t, "1.0@0:0-4*", impl.ErrSum, 0)
	checkCoded(t, "1.0@0:0-2*", impl.ErrSum, 0)
	checkCoded(t, "1.0@0:0-6*", impl.ErrSum, 0)
	checkCoded(t, "1.0@0:0-5* 1.1@0:5-9", impl.ErrSum, 1)
	checkCoded(t, "1.0@0:0-5* 1.1@0:7-6", impl.ErrSum, 1)
	checkCoded(t, "1.0@0:0-5* 1.1@0:7-8", impl.ErrFull, 2)
}

func TestPlanCodeOfStepsThatAreMissing(t *testing.T) {
	checkCoded(t, "", impl.ErrFull, 0)
	checkCoded(t, "1.0@0:0-5*", impl.ErrFull, 1)
	checkCoded(t, "1.0@0:0-5* 1.1@0:5-6", impl.ErrFull, 2)
	checkCoded(t, "1.0@0:0-5* 1.1@0:5-6 0.0@0:7-15*", impl.ErrFull, 3)
	checkCoded(t, "1.0@0:0-5* 0.0@0:5-13* 0.1@1:13-20*", impl.ErrFull, 3)
	for count := 1; count <= 20; count++ {
		jobs := manyJobs(count)
		plan, _ := impl.Plan(shopOf(1, 1, 1), jobs)
		for missing := range plan {
			if missing > 0 { // without the first one the second one would have to be Fresh
				checkMissing(t, jobs, plan, missing)
			}
		}
	}
}

func checkMissing(t *testing.T, jobs []impl.Job, plan []impl.Slot, missing int) {
	t.Helper()
	left := slices.Delete(slices.Clone(plan), missing, missing+1)
	if code, number := impl.PlanCode(shopOf(1, 1, 1), jobs, left); code != impl.ErrFull || number != len(plan)-1 {
		t.Error("PlanCode", jobs, left, code, number)
	}
}

// A slot that has all faults, which are mended one by one; behind it a slot is
// wrong, too, and at last a step is missing.
func TestPlanCodeInItsOrder(t *testing.T) {
	s, jobs := codedShop(), jobsTold(t, codedJobs)
	ahead := slotsTold(t, "1.0@0:50-55*")
	slot := impl.Slot{Job: 2, Step: 0, Machine: 1, From: -1, To: least, Fresh: true}
	check := func(code, number int) {
		t.Helper()
		plan := append(slices.Clone(ahead), slot)
		if got, gotNumber := impl.PlanCode(s, jobs, plan); got != code || gotNumber != number {
			t.Error("PlanCode", plan, got, gotNumber, "not", code, number)
		}
		checkPlanCode(t, s, jobs, plan)
		if code != impl.ErrFull {
			checkPlanCode(t, s, jobs, append(plan, impl.Slot{Job: least}))
		}
	}
	check(impl.ErrNone, 1)
	slot.Job = 1
	check(impl.ErrNone, 1) // the machine is still another one
	slot.Machine = 0
	check(impl.ErrTwice, 1)
	slot.Step = 1
	check(impl.ErrRange, 1)
	slot.From = 54
	check(impl.ErrState, 1)
	slot.From = 55
	check(impl.ErrGouge, 1)
	slot.Fresh = false
	check(impl.ErrSum, 1)
	slot.To = 56
	check(impl.ErrFull, 2)
}

// Too many slots are ErrLong, ahead of ErrBad, too.
func TestPlanCodeOfLongPlans(t *testing.T) {
	jobs := jobsTold(t, codedJobs)
	for _, count := range []int{impl.MaxList + 1, impl.MaxList + 2, 70000} {
		long := append(slotsTold(t, codedPlan), make([]impl.Slot, count-4)...)
		for _, s := range []impl.Shop{codedShop(), {}, shopOf(greatest, least, greatest)} {
			for _, list := range [][]impl.Job{nil, jobs, manyJobs(21), manyJobs(impl.MaxList + 1)} {
				if code, number := impl.PlanCode(s, list, long); code != impl.ErrLong || number != 0 {
					t.Error("PlanCode", s, len(list), count, code, number)
				}
				if books, code := impl.LedgerOf(s, list, long); code != impl.ErrLong || !noLedger(books) {
					t.Error("LedgerOf", s, len(list), count, books, code)
				}
			}
		}
	}
	for _, count := range []int{161, impl.MaxList - 1, impl.MaxList} {
		full := append(slotsTold(t, codedPlan), make([]impl.Slot, count-4)...)
		if code, number := checkPlanCode(t, codedShop(), jobs, full); code != impl.ErrTwice || number != 4 {
			t.Error("PlanCode", count, code, number)
		}
		if code, number := impl.PlanCode(impl.Shop{}, jobs, full); code != impl.ErrBad || number != 0 {
			t.Error("PlanCode of no shop", count, code, number)
		}
	}
}
