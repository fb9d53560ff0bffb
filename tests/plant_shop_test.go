package tests

import (
	"fmt"
	"slices"
	"strings"
	"testing"

	"loop.example/g00056/impl"
)

// Up to where numbers of shops and jobs go.
const (
	longestSetup = 1000
	longestLife  = 1000
	longestStep  = 1000
	latestDue    = 1000000
	mostSteps    = 8
	lastTool     = 9
)

func shopOf(machines, setup, life int) impl.Shop {
	return impl.Shop{Machines: machines, Setup: setup, Life: life}
}

// jobsTold reads jobs: a Name, a Due, and of each step Machine, Time, Tool and
// Wear: "a 20 0/5/1/6 1/4/2/1; b 10 0/2/1/5".
func jobsTold(t *testing.T, told string) []impl.Job {
	t.Helper()
	var jobs []impl.Job
	for _, one := range strings.Split(told, ";") {
		words := strings.Fields(one)
		if len(words) == 0 {
			continue
		}
		job := impl.Job{Name: words[0]}
		scan(t, words[1], "%d", &job.Due)
		for _, word := range words[2:] {
			var s impl.Step
			scan(t, word, "%d/%d/%d/%d", &s.Machine, &s.Time, &s.Tool, &s.Wear)
			job.Steps = append(job.Steps, s)
		}
		jobs = append(jobs, job)
	}
	return jobs
}

// slotsTold reads slots: Job, Step, Machine, From and To, with a star if they are
// Fresh: "1.0@0:0-5* 1.1@0:5-6".
func slotsTold(t *testing.T, told string) []impl.Slot {
	t.Helper()
	var plan []impl.Slot
	for _, word := range strings.Fields(told) {
		var s impl.Slot
		word, s.Fresh = strings.CutSuffix(word, "*")
		scan(t, word, "%d.%d@%d:%d-%d", &s.Job, &s.Step, &s.Machine, &s.From, &s.To)
		plan = append(plan, s)
	}
	return plan
}

func copiedJobs(jobs []impl.Job) []impl.Job {
	copied := slices.Clone(jobs)
	for i, job := range copied {
		copied[i].Steps = slices.Clone(job.Steps)
	}
	return copied
}

// manyJobs: so many that are right by all but their number, if a machine is there.
func manyJobs(count int) []impl.Job {
	jobs := make([]impl.Job, count)
	for i := range jobs {
		jobs[i] = impl.Job{Name: fmt.Sprint("job", i), Steps: []impl.Step{{Time: 1}}}
	}
	return jobs
}

func noLedger(l impl.Ledger) bool {
	return l.End == 0 && l.Late == 0 && l.Setups == 0 && l.Tools == 0 && len(l.Busy) == 0
}

// checkNoPlan: every function that has a code tells that one and nothing else,
// whatever the plan is.
func checkNoPlan(t *testing.T, s impl.Shop, jobs []impl.Job, code int) {
	t.Helper()
	if plan, got := impl.Plan(s, jobs); len(plan) != 0 || got != code {
		t.Error("Plan", s, short(jobs), short(plan), got, "not", code)
	}
	if bound, got := impl.Bound(s, jobs); bound != 0 || got != code {
		t.Error("Bound", s, short(jobs), bound, got, "not", code)
	}
	for _, plan := range [][]impl.Slot{nil, {{To: 1, Fresh: true}}, {{Job: -1}, {From: least, To: greatest}}, make([]impl.Slot, impl.MaxList)} {
		if got, number := impl.PlanCode(s, jobs, plan); got != code || number != 0 {
			t.Error("PlanCode", s, short(jobs), short(plan), got, number, "not", code)
		}
		if books, got := impl.LedgerOf(s, jobs, plan); !noLedger(books) || got != code {
			t.Error("LedgerOf", s, short(jobs), short(plan), books, got, "not", code)
		}
	}
}

func checkShop(t *testing.T, s impl.Shop, jobs []impl.Job, right bool) {
	t.Helper()
	if got := impl.ShopOK(s, jobs); got != right {
		t.Error("ShopOK", s, short(jobs), got)
	}
	if !right {
		checkNoPlan(t, s, jobs, impl.ErrBad)
		return
	}
	checkPlan(t, s, jobs)
}

// edgeNumbers: both ends and what lies next to them, and the ends of all numbers.
func edgeNumbers(low, high int) []int {
	return []int{least, least + 1, -1 << 32, low - 2, low - 1, low, low + 1, high - 1, high, high + 1, high + 2, 1 << 32, 1<<32 + low, 1<<32 + high, greatest - 1, greatest}
}

func TestPlantLimits(t *testing.T) {
	if impl.MaxMachines != 6 || impl.MaxJobs != 20 || impl.MaxTime != 1000000000 {
		t.Error("limits", impl.MaxMachines, impl.MaxJobs, impl.MaxTime)
	}
}

func TestShopsByTheirNumbers(t *testing.T) {
	lists := [][]impl.Job{nil, {}, jobsTold(t, "a 5 0/1/0/0"), jobsTold(t, "a 5 0/1/0/1 0/2/9/0; b 0 0/3/0/1")}
	for _, jobs := range lists {
		for _, n := range edgeNumbers(1, impl.MaxMachines) {
			checkShop(t, shopOf(n, 5, 5), jobs, 1 <= n && n <= 6)
		}
		for _, n := range edgeNumbers(0, longestSetup) {
			checkShop(t, shopOf(2, n, 5), jobs, 0 <= n && n <= 1000)
		}
		for _, n := range edgeNumbers(1, longestLife) {
			checkShop(t, shopOf(2, 5, n), jobs, 1 <= n && n <= 1000)
		}
		checkShop(t, impl.Shop{}, jobs, false)
		checkShop(t, shopOf(least, greatest, least), jobs, false)
		checkShop(t, shopOf(1, 0, 1), jobs, true)
		checkShop(t, shopOf(6, 1000, 1000), jobs, true)
	}
}

func TestShopsByTheCountOfJobs(t *testing.T) {
	for _, count := range []int{0, 1, 2, 19, 20, 21, 22, 255, 256, 4095, 4096} {
		checkShop(t, shopOf(1, 2, 3), manyJobs(count), count <= 20)
	}
	for _, count := range []int{4097, 4098, 65537} {
		if impl.ShopOK(shopOf(1, 2, 3), manyJobs(count)) {
			t.Error("ShopOK of", count, "jobs")
		}
		for _, s := range []impl.Shop{shopOf(1, 2, 3), {}, shopOf(least, greatest, 0)} {
			checkNoPlan(t, s, manyJobs(count), impl.ErrLong)
			checkNoPlan(t, s, make([]impl.Job, count), impl.ErrLong)
		}
	}
}

// withJob puts a job in at each place among others that are right, and alone.
func withJob(t *testing.T, job impl.Job, do func([]impl.Job)) {
	t.Helper()
	others := jobsTold(t, "a 5 0/1/0/1 1/2/9/0; b 0 1/3/0/1")
	for place := range len(others) + 1 {
		do(slices.Insert(copiedJobs(others), place, job))
	}
	do([]impl.Job{job})
}

func TestJobsByTheirNames(t *testing.T) {
	s := shopOf(2, 1, 3)
	for _, c := range []struct {
		name  string
		right bool
	}{
		{"c", true}, {"_", true}, {"A", true}, {"aa", true}, {"дом7", true}, {strings.Repeat("x", 40), true}, {strings.Repeat("д", 20), true},
		{"", false}, {"7", false}, {" c", false}, {"c ", false}, {"c-d", false}, {"\xff", false}, {"c\x00", false}, {"×", false}, {strings.Repeat("x", 41), false}, {strings.Repeat("x", impl.MaxText+1), false},
	} {
		withJob(t, impl.Job{Name: c.name, Steps: []impl.Step{{Time: 1}}}, func(jobs []impl.Job) { checkShop(t, s, jobs, c.right) })
	}
}

func TestJobsOfOneName(t *testing.T) {
	s := shopOf(2, 1, 3)
	for one := range 20 {
		for other := range one {
			jobs := manyJobs(20)
			jobs[one].Name = jobs[other].Name
			checkShop(t, s, jobs, false)
		}
	}
	// alike in all but their names, and in nothing but their names
	checkShop(t, s, jobsTold(t, "a 1 0/1/1/1; b 1 0/1/1/1; c 1 0/1/1/1"), true)
	checkShop(t, s, jobsTold(t, "a 1 0/1/1/1; a 2 1/2/2/2"), false)
	checkShop(t, s, jobsTold(t, "a 1 0/1/1/1; A 1 0/1/1/1; aa 1 0/1/1/1"), true)
}

func TestJobsByTheirDues(t *testing.T) {
	for _, due := range edgeNumbers(0, latestDue) {
		withJob(t, impl.Job{Name: "c", Due: due, Steps: []impl.Step{{Time: 1}}}, func(jobs []impl.Job) {
			checkShop(t, shopOf(2, 1, 3), jobs, 0 <= due && due <= 1000000)
		})
	}
}

// Lists within jobs are bounded by what jobs are: they are never ErrLong.
func TestJobsByTheCountOfSteps(t *testing.T) {
	for _, count := range []int{0, 1, 2, 7, 8, 9, 10, 256, impl.MaxList, impl.MaxList + 1, 3 * impl.MaxList} {
		withJob(t, impl.Job{Name: "c", Steps: slices.Repeat([]impl.Step{{Machine: 1, Time: 1, Wear: 1}}, count)}, func(jobs []impl.Job) {
			checkShop(t, shopOf(2, 1, 3), jobs, 1 <= count && count <= 8)
		})
	}
}

func checkSteps(t *testing.T, s impl.Shop, step impl.Step, right bool) {
	t.Helper()
	for place := range mostSteps {
		steps := slices.Repeat([]impl.Step{{Time: 1}}, mostSteps)
		steps[place] = step
		checkShop(t, s, []impl.Job{{Name: "a", Steps: []impl.Step{{Time: 2}}}, {Name: "b", Steps: steps}}, right)
	}
	checkShop(t, s, []impl.Job{{Name: "a", Steps: []impl.Step{step}}}, right)
}

func TestStepsByTheirNumbers(t *testing.T) {
	for machines := 1; machines <= 6; machines++ {
		for _, n := range edgeNumbers(0, machines-1) {
			checkSteps(t, shopOf(machines, 1, 3), impl.Step{Machine: n, Time: 1}, 0 <= n && n < machines)
		}
	}
	for _, n := range edgeNumbers(1, longestStep) {
		checkSteps(t, shopOf(1, 1, 3), impl.Step{Time: n}, 1 <= n && n <= 1000)
	}
	for _, n := range edgeNumbers(0, lastTool) {
		checkSteps(t, shopOf(1, 1, 3), impl.Step{Time: 1, Tool: n}, 0 <= n && n <= 9)
	}
	for _, life := range []int{1, 2, 3, 999, 1000} {
		for _, n := range edgeNumbers(0, life) {
			checkSteps(t, shopOf(1, 1, life), impl.Step{Time: 1, Wear: n}, 0 <= n && n <= life)
		}
	}
	checkSteps(t, shopOf(1, 1, 3), impl.Step{Machine: least, Time: greatest, Tool: least, Wear: greatest}, false)
}
