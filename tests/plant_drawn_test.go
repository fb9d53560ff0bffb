package tests

import (
	"fmt"
	"math/rand"
	"slices"
	"testing"

	"loop.example/g00056/impl"
)

// A plantSize says how great the numbers of drawn shops may be: small ones give
// steps that can begin at one time, and tools that are worn just so.
type plantSize struct{ machines, setup, life, jobs, due, steps, time, tool int }

func plantSizes() []plantSize {
	return []plantSize{
		{1, 1, 2, 4, 2, 4, 2, 1}, {2, 0, 3, 5, 1, 4, 1, 1}, {2, 2, 4, 6, 3, 8, 3, 2}, {3, 1, 5, 6, 3, 3, 2, 0}, {6, 1, 3, 8, 2, 1, 2, 1}, {6, 1, 4, 10, 2, 2, 2, 1},
		{6, 3, 6, 20, 40, 8, 4, 2}, {4, 5, 10, 12, 0, 5, 9, 9}, {6, longestSetup, longestLife, 20, latestDue, mostSteps, longestStep, lastTool},
	}
}

func drawnShop(draw *rand.Rand, size plantSize) (impl.Shop, []impl.Job) {
	s := shopOf(1+draw.Intn(size.machines), draw.Intn(size.setup+1), 1+draw.Intn(size.life))
	jobs := manyJobs(draw.Intn(size.jobs + 1))
	for i := range jobs {
		jobs[i].Due = draw.Intn(size.due + 1)
		jobs[i].Steps = make([]impl.Step, 1+draw.Intn(size.steps))
		for k := range jobs[i].Steps {
			wear := draw.Intn(s.Life + 1)
			if draw.Intn(2) == 0 {
				wear = min(wear, draw.Intn(3))
			}
			jobs[i].Steps[k] = impl.Step{Machine: draw.Intn(s.Machines), Time: 1 + draw.Intn(size.time), Tool: draw.Intn(size.tool + 1), Wear: wear}
		}
	}
	return s, jobs
}

// drawnShops: in some of them each job stays on the machine of its first step, so
// that shops fall apart.
func drawnShops(draw *rand.Rand, times int, do func(impl.Shop, []impl.Job)) {
	for _, size := range plantSizes() {
		for range times {
			s, jobs := drawnShop(draw, size)
			if draw.Intn(3) == 0 {
				for _, job := range jobs {
					for k := range job.Steps {
						job.Steps[k].Machine = job.Steps[0].Machine
					}
				}
			}
			do(s, jobs)
		}
	}
}

// drawnPlan is a right plan, of which steps begin later than they can and stand in
// any order.
func drawnPlan(draw *rand.Rand, s impl.Shop, jobs []impl.Job, latest int) []impl.Slot {
	var plan []impl.Slot
	for {
		var next []impl.Slot
		for job := range jobs {
			if slot, left := exactSlot(s, jobs, plan, job, max(0, draw.Intn(2*latest+1)-latest)); left {
				next = append(next, slot)
			}
		}
		if len(next) == 0 {
			return plan
		}
		plan = append(plan, next[draw.Intn(len(next))])
	}
}

func TestDrawnShopsArePlanned(t *testing.T) {
	draw := rand.New(rand.NewSource(191))
	seen := map[string]int{}
	drawnShops(draw, 600, func(s impl.Shop, jobs []impl.Job) {
		plan := checkPlan(t, s, jobs)
		for i, slot := range plan {
			if i > 0 && plan[i-1].From == slot.From {
				seen["begun at one time"]++
				if jobs[plan[i-1].Job].Due == jobs[slot.Job].Due {
					seen["and of one Due"]++
				}
			}
			if slot.Fresh {
				seen["fresh"]++
			}
		}
		if bound, _ := impl.Bound(s, jobs); len(plan) > 0 && plan[len(plan)-1].To == bound {
			seen["at its bound"]++
		}
	})
	if seen["begun at one time"] < 5000 || seen["and of one Due"] < 2000 || seen["fresh"] < 5000 || seen["at its bound"] < 100 {
		t.Error("seen", seen)
	}
}

// Each shop of two machines and two jobs of at most two steps, the numbers small.
func TestSmallShopsArePlanned(t *testing.T) {
	var steps [][]impl.Step
	for machine := range 2 {
		for _, time := range []int{1, 2} {
			for tool := range 2 {
				steps = append(steps, []impl.Step{{Machine: machine, Time: time, Tool: tool, Wear: 1}})
			}
		}
	}
	single := slices.Clone(steps)
	for _, one := range single {
		for _, other := range single {
			steps = append(steps, []impl.Step{one[0], other[0]})
		}
	}
	for _, one := range steps {
		for _, other := range steps {
			for _, due := range []int{0, 1} {
				jobs := []impl.Job{{Name: "a", Due: due, Steps: one}, {Name: "b", Due: 1 - due, Steps: other}, {Name: "c", Steps: []impl.Step{{Time: 1, Wear: 2}}}}
				checkPlan(t, shopOf(2, 1, 2), jobs)
			}
		}
	}
}

// Any right plan is taken, its books are added up slot by slot, and it ends no
// sooner than its bound.
func TestDrawnPlansAreTaken(t *testing.T) {
	draw := rand.New(rand.NewSource(192))
	drawnShops(draw, 100, func(s impl.Shop, jobs []impl.Job) {
		for _, latest := range []int{0, 1, 20} {
			plan := drawnPlan(draw, s, jobs, latest)
			if code, _ := checkPlanCode(t, s, jobs, plan); code != impl.OK {
				t.Fatal("PlanCode", s, jobs, plan, code)
			}
			checkBound(t, s, jobs, plan)
			if len(plan) > 0 {
				checkWithoutLast(t, s, jobs, plan)
				checkLater(t, draw, s, jobs, plan)
			}
		}
	})
}

func checkWithoutLast(t *testing.T, s impl.Shop, jobs []impl.Job, plan []impl.Slot) {
	t.Helper()
	for count := range plan {
		if code, number := impl.PlanCode(s, jobs, plan[:count]); code != impl.ErrFull || number != count {
			t.Fatal("PlanCode", s, jobs, plan[:count], code, number)
		}
	}
	if books, code := impl.LedgerOf(s, jobs, plan[:len(plan)-1]); code != impl.ErrFull || !noLedger(books) {
		t.Fatal("LedgerOf", s, jobs, plan[:len(plan)-1], books, code)
	}
}

// checkLater: all of it later by the same time is as right, up to where a slot
// begins behind MaxTime.
func checkLater(t *testing.T, draw *rand.Rand, s impl.Shop, jobs []impl.Job, plan []impl.Slot) {
	t.Helper()
	last := 0
	for _, slot := range plan {
		last = max(last, slot.From)
	}
	books, _ := impl.LedgerOf(s, jobs, plan)
	for _, by := range []int{1, 1 + draw.Intn(1000), impl.MaxTime - last} {
		later := laterBy(plan, by)
		if code, _ := checkPlanCode(t, s, jobs, later); code != impl.OK {
			t.Fatal("PlanCode", s, jobs, later, code)
		}
		laterBooks, _ := impl.LedgerOf(s, jobs, later)
		if laterBooks.End != books.End+by || laterBooks.Tools != books.Tools || !slices.Equal(laterBooks.Busy, books.Busy) || laterBooks.Late < books.Late {
			t.Fatal("LedgerOf", s, jobs, later, laterBooks, books)
		}
	}
	for _, by := range []int{impl.MaxTime - last + 1, greatest - last - 2*longestStep} {
		later := laterBy(plan, by)
		first := slices.IndexFunc(later, func(slot impl.Slot) bool { return slot.From > impl.MaxTime })
		if code, number := checkPlanCode(t, s, jobs, later); code != impl.ErrRange || number != first {
			t.Fatal("PlanCode", s, jobs, later, code, number)
		}
	}
	sooner := laterBy(plan, -1)
	if code, _ := checkPlanCode(t, s, jobs, sooner); slices.ContainsFunc(plan, func(slot impl.Slot) bool { return slot.From == 0 }) != (code == impl.ErrRange) {
		t.Fatal("PlanCode", s, jobs, sooner, code)
	}
}

func laterBy(plan []impl.Slot, by int) []impl.Slot {
	later := slices.Clone(plan)
	for i := range later {
		later[i].From += by
		later[i].To += by
	}
	return later
}

// spoiltPlan: slots exchanged, put in twice, left out, or changed in one field.
func spoiltPlan(draw *rand.Rand, plan []impl.Slot) []impl.Slot {
	spoilt := slices.Clone(plan)
	one, other := draw.Intn(len(plan)), draw.Intn(len(plan))
	by := []int{-1, 1, draw.Intn(7) - 3, draw.Intn(2001) - 1000, 1 << 40, least, greatest}[draw.Intn(7)]
	switch draw.Intn(10) {
	case 0:
		spoilt[one], spoilt[other] = spoilt[other], spoilt[one]
	case 1:
		spoilt[one] = spoilt[other]
	case 2:
		spoilt = slices.Insert(spoilt, one, spoilt[other])
	case 3:
		spoilt = slices.Delete(spoilt, one, one+1)
	case 4:
		spoilt[one].Job += by
	case 5:
		spoilt[one].Step += by
	case 6:
		spoilt[one].Machine += by
	case 7:
		spoilt[one].From += by
		if draw.Intn(2) == 0 {
			spoilt[one].To += by
		}
	case 8:
		spoilt[one].To += by
	case 9:
		spoilt[one].Fresh = !spoilt[one].Fresh
		if draw.Intn(2) == 0 {
			spoilt[one].To += by
		}
	}
	return spoilt
}

func TestSpoiltPlansByTheWords(t *testing.T) {
	draw := rand.New(rand.NewSource(193))
	codes := map[int]int{}
	drawnShops(draw, 150, func(s impl.Shop, jobs []impl.Job) {
		if len(jobs) == 0 {
			return
		}
		for _, plan := range [][]impl.Slot{exactPlan(s, jobs), drawnPlan(draw, s, jobs, 2)} {
			for range 12 {
				spoilt := spoiltPlan(draw, plan)
				if draw.Intn(3) == 0 && len(spoilt) > 0 {
					spoilt = spoiltPlan(draw, spoilt)
				}
				code, _ := checkPlanCode(t, s, jobs, spoilt)
				codes[code]++
			}
		}
	})
	for _, code := range []int{impl.OK, impl.ErrNone, impl.ErrTwice, impl.ErrRange, impl.ErrState, impl.ErrGouge, impl.ErrSum, impl.ErrFull} {
		if codes[code] < 500 {
			t.Error("of the code", code, "there are", codes[code], codes)
		}
	}
}

// renumbered has other numbers of machines, by a row of them.
func renumbered(jobs []impl.Job, row []int) []impl.Job {
	other := copiedJobs(jobs)
	for _, job := range other {
		for k := range job.Steps {
			job.Steps[k].Machine = row[job.Steps[k].Machine]
		}
	}
	return other
}

// Names say nothing of a plan, nor do the machines' numbers, nor machines that are
// not used; jobs of other Dues may stand in any order.
func TestPlansOfShopsToldOtherwise(t *testing.T) {
	draw := rand.New(rand.NewSource(194))
	drawnShops(draw, 60, func(s impl.Shop, jobs []impl.Job) {
		plan, _ := impl.Plan(s, jobs)
		check := func(s impl.Shop, jobs []impl.Job, change func(*impl.Slot)) {
			t.Helper()
			want := slices.Clone(plan)
			for i := range want {
				change(&want[i])
			}
			if got, code := impl.Plan(s, jobs); code != impl.OK || !slices.Equal(got, want) {
				t.Fatal("Plan", s, jobs, got, code, "not", want)
			}
		}
		named := copiedJobs(jobs)
		for i := range named {
			named[i].Name = fmt.Sprint("z", 100-i)
		}
		check(s, named, func(*impl.Slot) {})
		more := s
		more.Machines = impl.MaxMachines
		check(more, jobs, func(*impl.Slot) {})
		row := draw.Perm(s.Machines)
		check(s, renumbered(jobs, row), func(slot *impl.Slot) { slot.Machine = row[slot.Machine] })
	})
}

func TestPlansOfJobsInAnotherOrder(t *testing.T) {
	draw := rand.New(rand.NewSource(195))
	drawnShops(draw, 60, func(s impl.Shop, jobs []impl.Job) {
		dues := draw.Perm(len(jobs))
		for i := range jobs {
			jobs[i].Due = dues[i]
		}
		row := draw.Perm(len(jobs))
		other := make([]impl.Job, len(jobs))
		for i, job := range jobs {
			other[row[i]] = job
		}
		want, _ := impl.Plan(s, jobs)
		for i := range want {
			want[i].Job = row[want[i].Job]
		}
		if got, code := impl.Plan(s, other); code != impl.OK || !slices.Equal(got, want) {
			t.Fatal("Plan", s, other, got, code, "not", want)
		}
	})
}
