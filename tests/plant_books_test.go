package tests

import (
	"fmt"
	"reflect"
	"slices"
	"testing"

	"loop.example/g00056/impl"
)

func checkBooks(t *testing.T, s impl.Shop, told, slots string, want impl.Ledger) {
	t.Helper()
	jobs, plan := jobsTold(t, told), slotsTold(t, slots)
	if books, code := impl.LedgerOf(s, jobs, plan); code != impl.OK || !sameLedger(books, want) {
		t.Error("LedgerOf", s, told, slots, books, code, "not", want)
	}
	checkPlanCode(t, s, jobs, plan)
}

func TestBooksOfPlans(t *testing.T) {
	checkBooks(t, codedShop(), codedJobs, codedPlan, impl.Ledger{End: 27, Late: 7, Tools: 3, Setups: 9, Busy: []int{14, 7}})
	checkBooks(t, codedShop(), codedJobs, "0.0@0:0-8* 0.1@1:8-15* 1.0@0:8-13* 1.1@0:13-14", impl.Ledger{End: 15, Late: 4, Tools: 3, Setups: 9, Busy: []int{14, 7}})
	// the slot that ends last stands elsewhere than last
	checkBooks(t, codedShop(), codedJobs, "0.0@0:0-8* 0.1@1:100-107* 1.0@0:8-13* 1.1@0:13-14", impl.Ledger{End: 107, Late: 91, Tools: 3, Setups: 9, Busy: []int{14, 7}})
	checkBooks(t, shopOf(1, 5, 1), "a 5 0/2/0/1", "0.0@0:0-7*", impl.Ledger{End: 7, Late: 2, Tools: 1, Setups: 5, Busy: []int{7}})
	// Setup of 0: tools are counted all the same
	checkBooks(t, shopOf(1, 0, 1), "a 5 0/2/0/1 0/2/0/1 0/2/0/0", "0.0@0:0-2* 0.1@0:2-4* 0.2@0:4-6", impl.Ledger{End: 6, Late: 1, Tools: 2, Busy: []int{6}})
	// machines that are never busy
	checkBooks(t, shopOf(4, 1, 1), "a 5 1/2/0/1", "0.0@1:0-3*", impl.Ledger{End: 3, Tools: 1, Setups: 1, Busy: []int{0, 3, 0, 0}})
}

func TestBooksOfLateJobs(t *testing.T) {
	for due, late := range map[int]int{0: 3, 1: 2, 2: 1, 3: 0, 4: 0, 5: 0, latestDue: 0} {
		checkBooks(t, shopOf(1, 1, 1), fmt.Sprintf("a %d 0/2/0/1", due), "0.0@0:0-3*", impl.Ledger{End: 3, Late: late, Tools: 1, Setups: 1, Busy: []int{3}})
	}
	// one that ends sooner makes up for none; the steps ahead of the last do not count
	checkBooks(t, shopOf(1, 1, 9), "a 2 0/2/0/1; b 100 0/2/0/1; c 6 0/2/0/1", "0.0@0:0-3* 1.0@0:3-5 2.0@0:5-7", impl.Ledger{End: 7, Late: 2, Tools: 1, Setups: 1, Busy: []int{7}})
	checkBooks(t, shopOf(1, 1, 9), "a 0 0/2/0/1 0/2/0/1", "0.0@0:0-3* 0.1@0:3-5", impl.Ledger{End: 5, Late: 5, Tools: 1, Setups: 1, Busy: []int{5}})
	// as late as can be
	checkBooks(t, shopOf(1, 1000, 9), "a 0 0/1000/0/1", "0.0@0:1000000000-1000002000*", impl.Ledger{End: 1000002000, Late: 1000002000, Tools: 1, Setups: 1000, Busy: []int{2000}})
	checkBooks(t, shopOf(1, 1000, 9), "a 1000000 0/1000/0/1", "0.0@0:1000000000-1000002000*", impl.Ledger{End: 1000002000, Late: 999002000, Tools: 1, Setups: 1000, Busy: []int{2000}})
	checkBooks(t, shopOf(3, 0, 9), "a 1 0/1/0/1; b 2 1/1/0/1; c 3 2/1/0/1", "0.0@0:1000000000-1000000001* 1.0@1:1000000000-1000000001* 2.0@2:1000000000-1000000001*", impl.Ledger{End: 1000000001, Late: 2999999997, Tools: 3, Busy: []int{1, 1, 1}})
}

func TestBooksOfNoJobs(t *testing.T) {
	for machines := 1; machines <= 6; machines++ {
		for _, jobs := range [][]impl.Job{nil, {}} {
			s := shopOf(machines, 7, 7)
			if plan, code := impl.Plan(s, jobs); len(plan) != 0 || code != impl.OK {
				t.Error("Plan", s, plan, code)
			}
			for _, plan := range [][]impl.Slot{nil, {}} {
				if code, number := impl.PlanCode(s, jobs, plan); code != impl.OK || number != 0 {
					t.Error("PlanCode", s, code, number)
				}
				if books, code := impl.LedgerOf(s, jobs, plan); code != impl.OK || !sameLedger(books, impl.Ledger{Busy: make([]int, machines)}) {
					t.Error("LedgerOf", s, books, code)
				}
			}
			if bound, code := impl.Bound(s, jobs); bound != 0 || code != impl.OK {
				t.Error("Bound", s, bound, code)
			}
		}
	}
}

func TestBooksOfPlansThatAreWrong(t *testing.T) {
	for _, c := range []struct {
		slots string
		code  int
	}{
		{codedPlan, impl.OK}, {"2.0@0:0-5*", impl.ErrNone}, {"1.0@0:0-5* 1.0@0:5-7", impl.ErrTwice}, {"1.0@0:-1-4*", impl.ErrRange}, {"1.1@0:0-4*", impl.ErrState}, {"1.0@0:0-2", impl.ErrGouge}, {"1.0@0:0-2*", impl.ErrSum}, {"1.0@0:0-5*", impl.ErrFull},
	} {
		books, code := impl.LedgerOf(codedShop(), jobsTold(t, codedJobs), slotsTold(t, c.slots))
		if code != c.code || noLedger(books) != (code != impl.OK) {
			t.Error("LedgerOf", c.slots, books, code, "not", c.code)
		}
	}
}

func checkBoundTold(t *testing.T, s impl.Shop, told string, want int) {
	t.Helper()
	jobs := jobsTold(t, told)
	if bound, code := impl.Bound(s, jobs); bound != want || code != impl.OK {
		t.Error("Bound", s, told, bound, code, "not", want)
	}
	checkBound(t, s, jobs, checkPlan(t, s, jobs))
}

func TestBounds(t *testing.T) {
	checkBoundTold(t, codedShop(), codedJobs, 11)
	checkBoundTold(t, shopOf(1, 3, 9), "a 0 0/5/0/0", 8)
	checkBoundTold(t, shopOf(1, 0, 9), "a 0 0/5/0/0", 5)
	// a job's times together, without a Setup
	checkBoundTold(t, shopOf(3, 1, 9), "a 0 0/5/0/0 1/5/0/0 2/5/0/0", 15)
	checkBoundTold(t, shopOf(3, 9, 9), "a 0 0/5/0/0 1/5/0/0 2/5/0/0", 15)
	checkBoundTold(t, shopOf(3, 10, 9), "a 0 0/5/0/0 1/5/0/0 2/5/0/0", 15)
	checkBoundTold(t, shopOf(3, 11, 9), "a 0 0/5/0/0 1/5/0/0 2/5/0/0", 16)
	checkBoundTold(t, shopOf(2, 0, 9), "a 0 0/2/0/0 1/2/0/0; b 0 0/4/0/0 1/5/0/0; c 0 1/1/0/0", 9)
	// a machine's, with a Setup for each tool, however often it is put in
	checkBoundTold(t, shopOf(1, 2, 9), "a 0 0/1/0/9 0/1/0/9 0/1/0/9", 5)
	checkBoundTold(t, shopOf(1, 2, 9), "a 0 0/1/0/0 0/1/1/0 0/1/0/0 0/1/1/0", 8)
	checkBoundTold(t, shopOf(1, 2, 9), "a 0 0/1/0/0; b 0 0/1/9/0; c 0 0/1/5/0; d 0 0/1/9/0", 10)
	checkBoundTold(t, shopOf(2, 2, 9), "a 0 0/1/0/0 1/1/1/0; b 0 0/1/0/0 1/1/0/0", 6)
	checkBoundTold(t, shopOf(6, 2, 9), "a 0 5/7/3/0; b 0 5/7/3/0; c 0 0/15/3/0", 17)
	checkBoundTold(t, shopOf(1, 1, 1), "a 0 0/1/0/0 0/1/1/0 0/1/2/0 0/1/3/0 0/1/4/0; b 0 0/1/5/0 0/1/6/0 0/1/7/0 0/1/8/0 0/1/9/0", 20)
}

func sameJobs(a, b []impl.Job) bool { return reflect.DeepEqual(a, b) }

// roomyJobs: jobs and steps with room behind their ends, in which something stands.
func roomyJobs(jobs []impl.Job) []impl.Job {
	roomy := append(copiedJobs(jobs), impl.Job{Name: "behind", Due: 77, Steps: []impl.Step{{Time: 77}}})
	for i, job := range jobs {
		roomy[i].Steps = append(slices.Clone(job.Steps), impl.Step{Machine: 77})[:len(job.Steps)]
	}
	return roomy
}

// plantTold calls all functions, and spoils what they answer.
func plantTold(s impl.Shop, jobs []impl.Job, slots []impl.Slot) string {
	ok := impl.ShopOK(s, jobs)
	plan, planCode := impl.Plan(s, jobs)
	code, number := impl.PlanCode(s, jobs, slots)
	books, booksCode := impl.LedgerOf(s, jobs, slots)
	bound, boundCode := impl.Bound(s, jobs)
	told := fmt.Sprint(ok, plan, planCode, code, number, books, booksCode, bound, boundCode)
	plan, books.Busy = plan[:cap(plan)], books.Busy[:cap(books.Busy)]
	for i := range plan {
		plan[i] = impl.Slot{Job: 77}
	}
	spoilNumbers(books.Busy)
	return told
}

func TestPlantAnswersAreNewMemory(t *testing.T) {
	six, sixJobs := sixShops(t)
	sixPlan, _ := impl.Plan(six, sixJobs)
	for _, c := range []struct {
		s    impl.Shop
		jobs []impl.Job
		plan []impl.Slot
	}{
		{codedShop(), jobsTold(t, codedJobs), slotsTold(t, codedPlan)}, {codedShop(), jobsTold(t, codedJobs), slotsTold(t, "1.0@0:0-2")}, {codedShop(), nil, nil}, {six, sixJobs, sixPlan}, {six, sixJobs, sixPlan[3:]},
		{impl.Shop{}, sixJobs, sixPlan}, {shopOf(1, 1, 1), sixJobs, sixPlan}, {six, manyJobs(21), sixPlan}, {six, manyJobs(impl.MaxList + 1), sixPlan}, {six, sixJobs, make([]impl.Slot, impl.MaxList+1)},
	} {
		roomy := roomyJobs(c.jobs)
		want := roomyJobs(c.jobs)
		checkGiven(t, c.plan, impl.Slot{Job: 77}, func(plan []impl.Slot) string { return plantTold(c.s, roomy[:len(c.jobs)], plan) })
		if !sameJobs(roomy, want) {
			t.Error("an argument was changed", short(roomy), short(want))
		}
		for i, job := range c.jobs {
			if behind := roomy[i].Steps[:len(job.Steps)+1][len(job.Steps)]; behind != (impl.Step{Machine: 77}) {
				t.Error("something was written behind the steps", behind)
			}
		}
	}
}

// plantCalls: calls of every function of the layer, right, at an edge and wrong.
func plantCalls() []func() string {
	var calls []func() string
	tell := func(call func() string) { calls = append(calls, call) }
	step := impl.Step{Time: 2, Tool: 1, Wear: 1}
	for _, s := range []impl.Shop{{}, shopOf(1, 0, 1), shopOf(2, 3, 10), shopOf(6, 1000, 1000), shopOf(7, 0, 1), shopOf(greatest, least, greatest)} {
		for _, jobs := range [][]impl.Job{
			nil, manyJobs(1), manyJobs(20), manyJobs(21), manyJobs(impl.MaxList + 1), {{Name: "a", Steps: []impl.Step{step, step, {Machine: 1, Time: 1}}}, {Name: "b", Steps: []impl.Step{{Machine: 1, Time: 5}, step}}},
			{{Name: "a", Steps: []impl.Step{step}}, {Name: "a", Steps: []impl.Step{step}}}, {{Name: "", Due: least, Steps: make([]impl.Step, 9)}},
		} {
			tell(func() string { return fmt.Sprint("ShopOK ", impl.ShopOK(s, jobs)) })
			tell(func() string { return fmt.Sprint(impl.Plan(s, jobs)) })
			tell(func() string { return fmt.Sprint(impl.Bound(s, jobs)) })
			own, _ := impl.Plan(s, jobs)
			for _, plan := range [][]impl.Slot{nil, own, {{To: 1, Fresh: true}}, {{Job: least, Step: greatest}}, {{From: greatest, To: least}}, make([]impl.Slot, impl.MaxList+1)} {
				tell(func() string { return fmt.Sprint(impl.PlanCode(s, jobs, plan)) })
				tell(func() string { return fmt.Sprint(impl.LedgerOf(s, jobs, plan)) })
			}
		}
	}
	return calls
}
