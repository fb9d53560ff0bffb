package tests

import (
	"fmt"
	"runtime"
	"slices"
	"sync"
	"testing"

	"loop.example/g00056/impl"
)

// checkPlanTold: the plan is known by hand.
func checkPlanTold(t *testing.T, s impl.Shop, told, slots string) {
	t.Helper()
	jobs, want := jobsTold(t, told), slotsTold(t, slots)
	if plan, code := impl.Plan(s, jobs); code != impl.OK || !slices.Equal(plan, want) {
		t.Error("Plan", s, told, plan, code, "not", slots)
	}
	checkPlan(t, s, jobs)
}

func TestPlansOfOneJob(t *testing.T) {
	checkPlanTold(t, shopOf(1, 3, 10), "", "")
	checkPlanTold(t, shopOf(1, 3, 10), "a 20 0/5/1/6", "0.0@0:0-8*")
	checkPlanTold(t, shopOf(1, 3, 10), "a 0 0/5/1/6 0/2/1/4", "0.0@0:0-8* 0.1@0:8-10")
	checkPlanTold(t, shopOf(1, 1000, 1), "a 0 0/1000/9/1", "0.0@0:0-2000*")
	checkPlanTold(t, shopOf(2, 3, 10), "a 20 1/5/1/6", "0.0@1:0-8*")
	checkPlanTold(t, shopOf(6, 3, 10), "a 20 5/5/1/6", "0.0@5:0-8*")
	// over several machines, and back to one: with its tool and with another one
	checkPlanTold(t, shopOf(3, 1, 10), "a 0 0/2/1/1 1/3/1/1 2/1/1/1 0/4/1/1", "0.0@0:0-3* 0.1@1:3-7* 0.2@2:7-9* 0.3@0:9-13")
	checkPlanTold(t, shopOf(3, 1, 10), "a 0 0/2/1/1 1/3/1/1 2/1/1/1 0/4/2/1", "0.0@0:0-3* 0.1@1:3-7* 0.2@2:7-9* 0.3@0:9-14*")
	checkPlanTold(t, shopOf(2, 1, 4), "a 0 0/2/1/3 1/3/1/4 0/4/1/2", "0.0@0:0-3* 0.1@1:3-7* 0.2@0:7-12*")
	checkPlanTold(t, shopOf(2, 1, 5), "a 0 0/2/1/3 1/3/1/4 0/4/1/2", "0.0@0:0-3* 0.1@1:3-7* 0.2@0:7-11")
}

func TestPlansOfJobsThatWantOneMachine(t *testing.T) {
	checkPlanTold(t, shopOf(1, 2, 10), "a 9 0/4/1/1; b 9 0/3/1/1", "0.0@0:0-6* 1.0@0:6-9")
	checkPlanTold(t, shopOf(1, 2, 10), "a 9 0/4/1/1; b 8 0/3/1/1", "1.0@0:0-5* 0.0@0:5-9")
	checkPlanTold(t, shopOf(1, 2, 10), "a 8 0/4/1/1; b 9 0/3/2/1", "0.0@0:0-6* 1.0@0:6-11*")
	checkPlanTold(t, shopOf(1, 2, 1), "a 9 0/4/1/1; b 9 0/3/1/1", "0.0@0:0-6* 1.0@0:6-11*")
	checkPlanTold(t, shopOf(1, 0, 9), "a 5 0/1/0/0 0/1/0/0; b 5 0/1/0/0 0/1/0/0", "0.0@0:0-1* 0.1@0:1-2 1.0@0:2-3 1.1@0:3-4")
	checkPlanTold(t, shopOf(1, 0, 9), "a 7 0/1/0/0; b 6 0/2/0/0; c 7 0/3/0/0; d 6 0/4/0/0", "1.0@0:0-2* 3.0@0:2-6 0.0@0:6-7 2.0@0:7-10")
	// the setup is no reason to wait for another step, nor to take another one
	checkPlanTold(t, shopOf(1, 10, 9), "a 7 0/1/1/0; b 8 0/1/2/0; c 9 0/1/1/0", "0.0@0:0-11* 1.0@0:11-22* 2.0@0:22-33*")
	checkPlanTold(t, shopOf(1, 10, 9), "a 7 0/1/1/0; b 9 0/1/2/0; c 8 0/1/1/0", "0.0@0:0-11* 2.0@0:11-12 1.0@0:12-23*")
	// the lesser Due counts only where steps can begin at one time
	checkPlanTold(t, shopOf(2, 0, 9), "a 0 1/5/0/0 0/1/0/0; b 100 0/3/0/0 0/3/0/0", "0.0@1:0-5* 1.0@0:0-3* 1.1@0:3-6 0.1@0:6-7")
	checkPlanTold(t, shopOf(2, 0, 9), "a 0 1/5/0/0 0/1/0/0; b 100 0/5/0/0 0/3/0/0", "0.0@1:0-5* 1.0@0:0-5* 0.1@0:5-6 1.1@0:6-9")
	checkPlanTold(t, shopOf(2, 0, 9), "a 0 1/5/0/0 0/1/0/0; b 100 0/4/0/0 0/3/0/0", "0.0@1:0-5* 1.0@0:0-4* 1.1@0:4-7 0.1@0:7-8")
}

func TestPlansOfStepsThatBeginAtOneTime(t *testing.T) {
	// on machines that have nothing to do with each other
	checkPlanTold(t, shopOf(2, 0, 5), "a 9 0/2/0/0; b 3 1/2/0/0", "1.0@1:0-2* 0.0@0:0-2*")
	checkPlanTold(t, shopOf(2, 0, 5), "a 3 0/2/0/0; b 3 1/2/0/0", "0.0@0:0-2* 1.0@1:0-2*")
	checkPlanTold(t, shopOf(2, 0, 5), "a 3 1/2/0/0; b 3 0/2/0/0", "0.0@1:0-2* 1.0@0:0-2*")
	checkPlanTold(t, shopOf(3, 1, 5), "a 2 2/2/0/0 2/1/0/0; b 1 1/2/0/0 1/1/0/0; c 2 0/2/0/0 0/1/0/0", "1.0@1:0-3* 0.0@2:0-3* 2.0@0:0-3* 1.1@1:3-4 0.1@2:3-4 2.1@0:3-4")
	checkPlanTold(t, shopOf(2, 0, 5), "a 0 0/1/0/0 0/3/0/0 0/1/0/0; b 9 1/2/0/0 1/2/0/0 1/2/0/0", "0.0@0:0-1* 1.0@1:0-2* 0.1@0:1-4 1.1@1:2-4 0.2@0:4-5 1.2@1:4-6")
	// on machines that a later step joins
	checkPlanTold(t, shopOf(2, 0, 5), "a 9 0/2/0/0 1/1/0/0; b 3 1/2/0/0", "1.0@1:0-2* 0.0@0:0-2* 0.1@1:2-3")
	checkPlanTold(t, shopOf(2, 0, 5), "a 3 0/2/0/0 1/1/0/0; b 3 1/2/0/0 0/1/0/0", "0.0@0:0-2* 1.0@1:0-2* 0.1@1:2-3 1.1@0:2-3")
	checkPlanTold(t, shopOf(2, 0, 5), "a 4 0/2/0/0 1/1/0/0; b 3 1/2/0/0 0/1/0/0", "1.0@1:0-2* 0.0@0:0-2* 1.1@0:2-3 0.1@1:2-3")
	// of the same machine: the other one can not begin then any more
	checkPlanTold(t, shopOf(2, 0, 5), "a 5 0/3/0/0; b 5 0/1/0/0; c 5 1/2/0/0", "0.0@0:0-3* 2.0@1:0-2* 1.0@0:3-4")
	checkPlanTold(t, shopOf(2, 0, 5), "a 5 0/3/0/0; b 5 0/1/0/0; c 5 1/2/0/0 0/1/0/0", "0.0@0:0-3* 2.0@1:0-2* 1.0@0:3-4 2.1@0:4-5")
	checkPlanTold(t, shopOf(2, 0, 5), "a 5 0/3/0/0; b 6 0/1/0/0; c 5 1/2/0/0 0/1/0/0", "0.0@0:0-3* 2.0@1:0-2* 2.1@0:3-4 1.0@0:4-5")
}

func TestPlansOfWornTools(t *testing.T) {
	// worn to just its Life, a step without wear, and by one more
	checkPlanTold(t, shopOf(1, 1, 5), "a 0 0/1/3/2 0/1/3/3 0/1/3/0 0/1/3/1", "0.0@0:0-2* 0.1@0:2-3 0.2@0:3-4 0.3@0:4-6*")
	checkPlanTold(t, shopOf(1, 1, 5), "a 0 0/1/3/2 0/1/3/4 0/1/3/1 0/1/3/1", "0.0@0:0-2* 0.1@0:2-4* 0.2@0:4-5 0.3@0:5-7*")
	checkPlanTold(t, shopOf(1, 1, 5), "a 0 0/1/3/5 0/1/3/0 0/1/3/5 0/1/3/5", "0.0@0:0-2* 0.1@0:2-3 0.2@0:3-5* 0.3@0:5-7*")
	checkPlanTold(t, shopOf(1, 1, 1), "a 0 0/1/3/0 0/1/3/1 0/1/3/0 0/1/3/1 0/1/3/0", "0.0@0:0-2* 0.1@0:2-3 0.2@0:3-4 0.3@0:4-6* 0.4@0:6-7")
	checkPlanTold(t, shopOf(1, 2, 1000), "a 0 0/1/0/999 0/1/0/1 0/1/0/0 0/1/0/1 0/1/0/1000", "0.0@0:0-3* 0.1@0:3-4 0.2@0:4-5 0.3@0:5-8* 0.4@0:8-11*")
	// no wear at all
	checkPlanTold(t, shopOf(1, 2, 1), "a 0 0/1/0/0 0/1/0/0 0/1/0/0", "0.0@0:0-3* 0.1@0:3-4 0.2@0:4-5")
	// by the steps of several jobs, and on one machine alone
	checkPlanTold(t, shopOf(1, 1, 5), "a 0 0/1/1/3; b 1 0/1/1/2; c 2 0/1/1/1", "0.0@0:0-2* 1.0@0:2-3 2.0@0:3-5*")
	checkPlanTold(t, shopOf(2, 1, 5), "a 0 0/1/1/3 1/1/1/3 0/1/1/2 1/1/1/2", "0.0@0:0-2* 0.1@1:2-4* 0.2@0:4-5 0.3@1:5-6")
	// taken out and put in again: fresh, and its wear is counted anew
	checkPlanTold(t, shopOf(1, 1, 5), "a 0 0/1/1/1 0/1/2/1 0/1/1/1", "0.0@0:0-2* 0.1@0:2-4* 0.2@0:4-6*")
	checkPlanTold(t, shopOf(1, 1, 5), "a 0 0/1/1/4 0/1/2/1 0/1/1/4 0/1/1/1 0/1/1/1", "0.0@0:0-2* 0.1@0:2-4* 0.2@0:4-6* 0.3@0:6-7 0.4@0:7-9*")
	checkPlanTold(t, shopOf(1, 1, 5), "a 0 0/1/1/0 0/1/2/0 0/1/1/0", "0.0@0:0-2* 0.1@0:2-4* 0.2@0:4-6*")
	// a worn one that is another one, too: one Setup
	checkPlanTold(t, shopOf(1, 1, 5), "a 0 0/1/1/5 0/1/2/5 0/1/2/5", "0.0@0:0-2* 0.1@0:2-4* 0.2@0:4-6*")
	// Setup of 0: fresh all the same
	checkPlanTold(t, shopOf(1, 0, 5), "a 0 0/1/1/5 0/1/2/1 0/1/2/4 0/1/2/1", "0.0@0:0-1* 0.1@0:1-2* 0.2@0:2-3 0.3@0:3-4*")
}

func TestPlansOfFirstSteps(t *testing.T) {
	for machine := range 6 {
		for tool := range 10 {
			for _, wear := range []int{0, 1, 7} {
				told := fmt.Sprintf("a 0 %d/4/%d/%d", machine, tool, wear)
				checkPlanTold(t, shopOf(6, 3, 7), told, fmt.Sprintf("0.0@%d:0-7*", machine))
				// the machine's second step, with the same tool and with others
				for other := range 10 {
					second := fmt.Sprintf("0.1@%d:7-8", machine)
					if other != tool {
						second = fmt.Sprintf("0.1@%d:7-11*", machine)
					}
					checkPlanTold(t, shopOf(6, 3, 7), fmt.Sprintf("%s %d/1/%d/0", told, machine, other), fmt.Sprintf("0.0@%d:0-7* %s", machine, second))
				}
			}
		}
	}
}

// The greatest of all: 160 steps one behind the other, each with a Setup.
func TestPlansOfTheGreatestShop(t *testing.T) {
	jobs := manyJobs(impl.MaxJobs)
	for i := range jobs {
		jobs[i].Due = latestDue - i
		jobs[i].Steps = slices.Repeat([]impl.Step{{Machine: 5, Time: longestStep, Tool: lastTool, Wear: longestLife}}, mostSteps)
	}
	s := shopOf(6, longestSetup, longestLife)
	plan := checkPlan(t, s, jobs)
	if len(plan) != 160 || plan[0] != (impl.Slot{Job: 19, Machine: 5, To: 2000, Fresh: true}) || plan[159] != (impl.Slot{Step: 7, Machine: 5, From: 318000, To: 320000, Fresh: true}) {
		t.Error("Plan", plan)
	}
	if bound, _ := impl.Bound(s, jobs); bound != 161000 {
		t.Error("Bound", bound)
	}
	if books, _ := impl.LedgerOf(s, jobs, plan); !sameLedger(books, impl.Ledger{End: 320000, Tools: 160, Setups: 160000, Busy: []int{0, 0, 0, 0, 0, 320000}}) {
		t.Error("LedgerOf", books)
	}
}

// sixShops: jobs on machines of their own, so that plans are made side by side.
func sixShops(t *testing.T) (impl.Shop, []impl.Job) {
	t.Helper()
	return shopOf(6, 1, 4), jobsTold(t, "a 3 0/1/0/1 0/1/0/1; b 3 1/1/0/1 1/1/1/1; c 2 2/2/0/1 2/1/0/4; d 3 3/1/0/1; e 1 4/1/0/1 4/1/0/1; f 3 5/1/0/1; g 2 5/3/0/3; h 0 0/1/2/2 0/5/2/2; i 3 3/1/0/3; j 3 4/2/7/1")
}

func TestPlansMadeSideBySide(t *testing.T) {
	s, jobs := sixShops(t)
	want := checkPlan(t, s, jobs)
	for range 2000 {
		if plan, code := impl.Plan(s, jobs); code != impl.OK || !slices.Equal(plan, want) {
			t.Fatal("Plan", plan, code, "not", want)
		}
	}
	// asked for by many at a time
	var asking sync.WaitGroup
	answers := make([][]impl.Slot, 100)
	for i := range answers {
		asking.Go(func() { answers[i], _ = impl.Plan(s, jobs) })
	}
	asking.Wait()
	for i, plan := range answers {
		if !slices.Equal(plan, want) {
			t.Fatal("Plan", i, plan, "not", want)
		}
	}
}

// Those who plan have ended when the plan is told.
func TestPlansLeaveNobodyBehind(t *testing.T) {
	s, jobs := sixShops(t)
	before := runtime.NumGoroutine()
	for range 1000 {
		impl.Plan(s, jobs)
		impl.Plan(impl.Shop{}, jobs)
	}
	for range 1000 {
		runtime.Gosched()
	}
	if now := runtime.NumGoroutine(); now > before+100 {
		t.Error(before, "goroutines before, now", now)
	}
}
