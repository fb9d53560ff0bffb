package tests

import (
	"fmt"
	"math/big"
	"slices"
	"testing"

	"loop.example/g00056/impl"
)

// A wayNumber is a number on the way to where a frame comes to rest, and where
// on the way it stands.
type wayNumber struct {
	part  string
	value *big.Rat
}

func (n wayNumber) right() bool {
	_, code := rightOf(n.value)
	return code == impl.OK
}

// An exactRest has exact numbers, however great they are.
type exactRest struct {
	way            []wayNumber
	shifts, forces []*big.Rat
}

func (r *exactRest) note(value *big.Rat, part string, step ...any) *big.Rat {
	r.way = append(r.way, wayNumber{part + fmt.Sprint(step...), value})
	return value
}

func ratTimes(a, b *big.Rat) *big.Rat { return new(big.Rat).Mul(a, b) }

func ratLess(a, b *big.Rat) *big.Rat { return new(big.Rat).Sub(a, b) }

// stiffnessOf is that of all springs between two nodes together; of a node and
// itself that of all springs that it has.
func stiffnessOf(f impl.Frame, one, other int) int {
	sum := 0
	for _, s := range f.Springs {
		switch {
		case one == other && (s.A == one || s.B == one), s.A == one && s.B == other, s.A == other && s.B == one:
			sum += s.Stiff
		}
	}
	return sum
}

func rowNumber(f impl.Frame, node, column int) int {
	switch column {
	case f.Nodes:
		return f.Loads[node]
	case node:
		return stiffnessOf(f, node, node)
	}
	return -stiffnessOf(f, node, column)
}

// exactWay goes the document's way of a frame of which all nodes are held, to its
// end, whatever comes up.
func exactWay(f impl.Frame) exactRest {
	var rest exactRest
	rows := map[[2]int]*big.Rat{}
	for node := range f.Nodes {
		for column := range f.Nodes + 1 {
			rows[[2]int{node, column}] = ratOf(rowNumber(f, node, column), 1)
		}
	}
	for k := range f.Nodes {
		turned := new(big.Rat).Inv(rows[[2]int{k, k}])
		load := map[bool]string{true: "load "}
		for c := k + 1; c <= f.Nodes; c++ {
			at := [2]int{k, c}
			rows[at] = rest.note(ratTimes(rows[at], turned), load[c == f.Nodes]+"quotient ", k)
		}
		for i := k + 1; i < f.Nodes; i++ {
			many := rows[[2]int{i, k}]
			for c := k + 1; c <= f.Nodes && many.Sign() != 0; c++ {
				at := [2]int{i, c}
				product := rest.note(ratTimes(many, rows[[2]int{k, c}]), load[c == f.Nodes]+"product ", k)
				rows[at] = rest.note(ratLess(rows[at], product), load[c == f.Nodes]+"sum ", k)
			}
		}
	}
	rest.shifts = make([]*big.Rat, f.Nodes)
	for i := f.Nodes - 1; i >= 0; i-- {
		rest.shifts[i] = rows[[2]int{i, f.Nodes}]
		for c := i + 1; c < f.Nodes; c++ {
			product := rest.note(ratTimes(rows[[2]int{i, c}], rest.shifts[c]), "shift product")
			rest.shifts[i] = rest.note(ratLess(rest.shifts[i], product), map[bool]string{true: "shift", false: "shift so far"}[c == f.Nodes-1])
		}
	}
	for _, s := range f.Springs {
		far := new(big.Rat)
		if s.B >= 0 {
			far = rest.shifts[s.B]
		}
		apart := rest.note(ratLess(far, rest.shifts[s.A]), "apart")
		rest.forces = append(rest.forces, rest.note(ratTimes(ratOf(s.Stiff, 1), apart), "force"))
	}
	return rest
}

// determinant of the rows without their loads: it is 0 just if there are nodes
// that nothing holds.
func determinant(f impl.Frame, row int, columns []int) *big.Int {
	if len(columns) == 0 {
		return big.NewInt(1)
	}
	sum := new(big.Int)
	for i, column := range columns {
		number := big.NewInt(int64(rowNumber(f, row, column)))
		if number.Sign() == 0 {
			continue
		}
		if i%2 == 1 {
			number.Neg(number)
		}
		sum.Add(sum, number.Mul(number, determinant(f, row+1, slices.Delete(slices.Clone(columns), i, i+1))))
	}
	return sum
}

// exactStress: what Balance is to answer of a right frame.
func exactStress(f impl.Frame) (impl.Stress, int) {
	if determinant(f, 0, numbersTo(f.Nodes)).Sign() == 0 {
		return impl.Stress{}, impl.ErrState
	}
	rest := exactWay(f)
	for _, n := range rest.way {
		if !n.right() {
			return impl.Stress{}, impl.ErrOver
		}
	}
	return impl.Stress{Shifts: rightAll(rest.shifts), Forces: rightAll(rest.forces)}, impl.OK
}

func rightAll(values []*big.Rat) []impl.Frac {
	var list []impl.Frac
	for _, v := range values {
		f, _ := rightOf(v)
		list = append(list, f)
	}
	return list
}

func sameStress(a, b impl.Stress) bool {
	return slices.Equal(a.Shifts, b.Shifts) && slices.Equal(a.Forces, b.Forces)
}

// checkAtRest: without going any way, at each node forces and load come to 0, and
// each force is the stiffness times what the ends of its spring are apart.
func checkAtRest(t *testing.T, f impl.Frame, s impl.Stress) {
	t.Helper()
	if len(s.Shifts) != f.Nodes || len(s.Forces) != len(f.Springs) {
		t.Fatal("Balance", f, s)
	}
	sums := make([]*big.Rat, f.Nodes)
	for i, load := range f.Loads {
		sums[i] = ratOf(load, 1)
	}
	for i, spring := range f.Springs {
		apart := ratOf(-s.Shifts[spring.A].N, s.Shifts[spring.A].D)
		force := ratOf(s.Forces[i].N, s.Forces[i].D)
		sums[spring.A].Add(sums[spring.A], force)
		if spring.B >= 0 {
			apart.Add(apart, ratOf(s.Shifts[spring.B].N, s.Shifts[spring.B].D))
			sums[spring.B].Sub(sums[spring.B], force)
		}
		if force.Cmp(ratTimes(ratOf(spring.Stiff, 1), apart)) != 0 {
			t.Fatal("Balance", f, s, "the force", i, "is not its stiffness times", apart)
		}
	}
	for node, sum := range sums {
		if sum.Sign() != 0 {
			t.Fatal("Balance", f, s, "forces and load of", node, "come to", sum)
		}
	}
	for _, number := range slices.Concat(s.Shifts, s.Forces) {
		if right, code := rightOf(ratOf(number.N, number.D)); code != impl.OK || right != number {
			t.Fatal("Balance", f, s, "has a fraction that is not right", number)
		}
	}
}

// checkBalance: what is answered of a right frame, and its code.
func checkBalance(t *testing.T, f impl.Frame) (impl.Stress, int) {
	t.Helper()
	if !impl.FrameOK(f) {
		t.Fatal("FrameOK is false of", f)
	}
	want, wantCode := exactStress(f)
	s, code := impl.Balance(f)
	if code != wantCode || !sameStress(s, want) {
		t.Fatal("Balance", f, s, code, "not", want, wantCode)
	}
	if code == impl.OK {
		checkAtRest(t, f, s)
	}
	return s, code
}

// checkTooGreat: those numbers alone that stand in these parts of the way are no
// right fractions; whether all that would be answered is right is told, too.
func checkTooGreat(t *testing.T, told string, endsRight bool, parts ...string) {
	t.Helper()
	f := frameTold(t, told)
	var wrong []string
	rest := exactWay(f)
	for _, n := range rest.way {
		if !n.right() && !slices.Contains(wrong, n.part) {
			wrong = append(wrong, n.part)
		}
	}
	right := !slices.Contains(rightAll(slices.Concat(rest.shifts, rest.forces)), impl.Frac{})
	if !slices.Equal(wrong, parts) || right != endsRight {
		t.Fatalf("the case itself is wrong: %s: %q, not %q, right at the end: %v", told, wrong, parts, right)
	}
	checkBalance(t, f)
	checkNotAtRest(t, f, impl.ErrOver)
}

// A number that is no right fraction is ErrOver wherever it stands, and though
// shifts and forces would be right. (At step 0 none can be: all numbers are below
// those of all stiffnesses together, squared.)
func TestNumbersOfRowsThatAreTooGreat(t *testing.T) {
	checkTooGreat(t, "0-g:5 1-0:53 2-0:243 2-1:80 | 3 0 0", true, "product 1")
	checkTooGreat(t, "0-g:643 1-0:782 2-1:707 2-g:464 | 0 0 0", true, "sum 1") // without any load all shifts are 0
	checkTooGreat(t, "0-g:829 1-0:803 2-0:353 2-1:856 | 0 0 0", true, "product 1", "sum 1")
	// later
	checkTooGreat(t, "0-g:12 1-0:47 2-0:56 3-1:91 | 0 -1 0 0", true, "product 2")
	checkTooGreat(t, "0-g:29 1-0:161 2-g:233 3-2:197 3-1:88 | 0 0 0 0", true, "sum 2")
	checkTooGreat(t, "0-g:17 1-0:7 2-1:11 3-2:29 4-2:25 | -1 0 0 -1 -1", true, "product 3")
	checkTooGreat(t, "0-g:51 1-g:191 2-0:96 3-1:190 4-1:24 2-3:274 | 0 0 0 0 0", true, "sum 3")
	checkTooGreat(t, "0-g:19 1-0:6 2-1:28 3-2:22 4-0:27 5-3:15 | 0 1 1 0 2 0", true, "product 4")
	checkTooGreat(t, "0-g:91 1-g:83 2-1:42 3-0:43 4-0:37 5-4:51 2-5:65 | 0 0 0 0 0 0", true, "sum 4")
	checkTooGreat(t, "0-g:655 1-g:412 2-1:101 3-1:115 4-0:251 5-0:581 5-3:665 | 1 0 0 0 -1 0", true, "sum 3", "sum 4")
	// a step behind one that is not right is right again
	checkTooGreat(t, "0-g:15 1-0:47 2-g:106 3-0:286 4-0:8 1-4:189 | 0 0 -1 0 0", true, "product 1", "product 3")
}

func TestLoadsThatAreTooGreat(t *testing.T) {
	checkTooGreat(t, "0-g:232 1-0:283 2-1:174 3-0:166 | 389 0 0 0", true, "load product 1")
	checkTooGreat(t, "0-g:920 1-g:897 2-0:649 2-0:244 0-1:148 | 763 0 318", true, "load sum 1")
	checkTooGreat(t, "0-g:29 1-0:37 2-1:45 3-1:35 | 0 73 41 0", true, "load product 2")
	checkTooGreat(t, "0-g:11 1-0:2 2-1:29 3-2:24 4-2:15 | 0 0 7 10 -1", true, "load product 3")
	checkTooGreat(t, "0-g:3 1-g:47 2-0:64 3-2:52 4-3:8 5-3:22 | 0 0 0 -5 58 0", true, "load product 4")
	checkTooGreat(t, "0-g:8 1-g:21 2-0:27 3-g:16 4-2:10 5-1:16 0-5:22 3-4:3 | 76 889 823 -355 52 741", true, "load sum 4")
	checkTooGreat(t, "0-g:9 1-0:225 2-1:109 3-0:188 | -588 0 0 -322", true, "load product 1", "load product 2")
	// the last row's load is the last node's shift: no right fraction, while all others, and all forces, would be
	checkTooGreat(t, "0-g:779 1-g:487 2-1:107 0-g:30 0-1:365 0-1:674 | 0 0 842", false, "load quotient 2")
	checkTooGreat(t, "0-g:211 1-0:199 2-1:143 3-2:98 | 0 0 0 -953", false, "load quotient 3")
	checkTooGreat(t, "0-g:71 1-0:195 2-g:293 3-1:125 4-3:226 | 0 0 0 0 811", false, "load quotient 4")
}

func TestShiftsThatAreTooGreat(t *testing.T) {
	checkTooGreat(t, "0-g:125 1-0:209 2-1:52 | 3 3 1", true, "shift product")
	checkTooGreat(t, "0-g:109 1-0:223 2-1:28 3-0:131 | 2 1 0 0", true, "shift so far")
	checkTooGreat(t, "0-g:69 1-0:236 2-1:53 3-0:104 | 0 -5 -6 9", true, "shift product", "shift so far")
	checkTooGreat(t, "0-g:265 1-0:247 2-g:199 3-0:183 3-2:121 | 0 36 0 41", false, "shift")
	// two nodes
	checkTooGreat(t, "0-g:997 0-1:991 1-g:983 | 1 0", true, "shift product")
}

// A force that is no right fraction can not be told, though all shifts are right.
func TestForcesThatAreTooGreat(t *testing.T) {
	checkTooGreat(t, "0-g:219 1-g:295 2-1:62 0-2:223 | 70 -22 0", false, "force")
}

// Frames of which another way than the document's has other numbers: it would be
// right where this one is not, and the other way round.
func TestWaysThatAreOthers(t *testing.T) {
	for _, c := range []struct {
		other, right, tooGreat string
	}{
		{"shifts by columns falling", "0-g:98 1-0:94 2-0:58 3-0:98 1-3:18 | 4 4 0 0", "0-g:123 1-0:289 2-1:55 3-0:107 | 0 -2 0 -7"},
		{"products of a shift added up first", "0-g:284 1-0:139 2-1:4 3-0:69 | 0 1 1 0", "0-g:21 1-0:29 2-1:20 3-2:17 4-0:3 | 0 0 53 0 42"},
		{"rows that are not divided", "0-g:26 1-0:295 2-1:96 | 82 98 44", "0-g:131 1-0:239 2-1:3 | -1 3 0"},
		{"rows above, too", "0-g:86 1-0:1 2-1:85 3-2:32 | -2 -3 0 2", "0-g:218 1-0:161 2-1:59 3-0:16 | 0 0 16 0"},
		{"from the last node on", "0-g:6 1-0:61 2-g:38 1-2:69 | 0 -2 -1", "0-g:131 1-0:239 2-1:3 | -1 3 0"},
		{"forces by a product for each end", "0-g:143 1-g:65 2-1:237 0-2:157 | 30 -31 -65", ""},
		{"products and sums in one", "", "0-g:131 1-0:239 2-1:3 | -1 3 0"},
	} {
		if c.right != "" {
			if _, code := checkBalance(t, frameTold(t, c.right)); code != impl.OK {
				t.Error(c.other, c.right, code)
			}
		}
		if c.tooGreat != "" {
			checkBalance(t, frameTold(t, c.tooGreat))
			checkNotAtRest(t, frameTold(t, c.tooGreat), impl.ErrOver)
		}
	}
}
