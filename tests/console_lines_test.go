package tests

import (
	"fmt"
	"strings"
	"testing"

	"loop.example/g00056/impl"
)

func TestConsoleLimits(t *testing.T) {
	if impl.MaxLines != 200 || impl.MaxAsks != 20 {
		t.Error("limits", impl.MaxLines, impl.MaxAsks)
	}
}

func TestConsoleParams(t *testing.T) {
	checkTalk(t, "param w 2cm -> ok", "eval w -> value 20 1", "param h w / 8 -> ok", "eval w * h -> value 50 2", "eval h -> value 5/2 1")
	// a name that is there already, with terms of others that hang on it
	checkTalk(t, "param a 1 -> ok", "param b a + 1 -> ok", "eval a * 10 + b -> value 12 0", "param a 5 -> ok", "eval a * 10 + b -> value 56 0", "param a 5 -> ok", "eval b -> value 6 0")
	// a term that names a later one: a stands behind b now, and b names it
	checkTalk(t, "param a 1 -> ok", "param b a -> ok", "param a 2 -> ok", "eval b -> value 2 0", "param c b -> ok", "param b a * 7 -> ok", "eval c -> value 14 0")
	// one of that name stands at the end: the first fault is another one then
	checkTalk(t,
		"param a 1 / 0 -> ok", "param b 1 + 1mm -> ok", "eval 3 -> error zero", "param a 1 / 0 -> ok", "eval 3 -> error unit", "param b 1 + 1mm -> ok", "eval 3 -> error zero",
		"param c a + b -> ok", "eval 3 -> error zero", "param a 8 -> ok", "eval 3 -> error unit", "param b 9 -> ok", "eval c -> value 17 0")
	// names that are none
	checkTalk(t, "param a b -> error name", "eval a -> error name", "param b 1 -> ok", "param a b -> ok", "param a b + c -> error name", "eval a -> value 1 0")
	for _, name := range []string{"1", "a-b", "a.b", "\xff", "min", "max", "abs", "a\t", "a\r", "=", strings.Repeat("a", 41)} {
		checkTalk(t, "param "+name+" 1 -> error bad", "eval 1 -> value 1 0", "param "+name+" nowhere -> error bad", "param a "+name+"( -> error syntax")
	}
	checkTalk(t, "param "+strings.Repeat("a", 40)+" 1 -> ok", "eval 2 * "+strings.Repeat("a", 40)+" -> value 2 0", "param Größe 3 -> ok", "param длина 4 -> ok", "eval Größe * длина -> value 12 0", "param mm 2 -> ok", "eval mm -> value 2 0", "eval 1mm -> value 1 1")
	// what a name may be beside: a line's word
	checkTalk(t, "param param 1 -> ok", "param eval 2 -> ok", "eval eval + param -> value 3 0", "param end 3 -> ok", "eval end -> value 3 0", "param _ 4 -> ok", "eval _ -> value 4 0", "eval param -> value 1 0")
}

func TestConsoleParamsInACircle(t *testing.T) {
	checkTalk(t, "param a a -> error loop", "eval a -> error name", "param a 1 -> ok", "param a a -> error loop", "eval a -> value 1 0")
	checkTalk(t, "param a 1 -> ok", "param b a -> ok", "param c b -> ok", "param a c -> error loop", "eval c -> value 1 0", "param b c -> error loop", "eval b -> value 1 0", "param a 2 -> ok", "eval c -> value 2 0", "param b 3 -> ok", "param a c -> ok", "eval a -> value 3 0")
}

// Nothing changes where a line says an error: not the term, not the place.
func TestConsoleParamsThatAreRefused(t *testing.T) {
	for _, refused := range []string{"param a b -> error loop", "param a a -> error loop", "param a nowhere -> error name", "param a 1 + -> error syntax", "param a 1.2345678 -> error syntax", "param a ) -> error syntax", "param a " + strings.Repeat("(", 21) + "1" + strings.Repeat(")", 21) + " -> error many", "param a 999999999m -> error over"} {
		checkTalk(t, "param a 1 / 0 -> ok", "param b a + 1mm * 1 -> ok", "param c 1 + 1mm -> ok", refused, "eval 2 -> error zero", "param c 1 -> ok", "eval 2 -> error zero", "param a 1mm -> ok", "eval b -> value 2 1")
	}
}

func TestConsoleManyParams(t *testing.T) {
	var turns []string
	for i := range 60 {
		turns = append(turns, fmt.Sprintf("param p%d %d -> ok", i, i))
	}
	checkTalk(t, append(turns,
		"param q 1 -> error many", "param 1 ( -> error many", "eval p59 + p0 -> value 59 0", "eval q -> error name",
		"param p7 1000 -> ok", "eval p7 -> value 1000 0", "param p7 ( -> error syntax", "param p7 q -> error name", "param p7 p7 -> error loop", "eval p7 + p8 -> value 1008 0")...)
}

func TestConsoleEval(t *testing.T) {
	checkTalk(t, "eval 1 -> value 1 0", "eval 1/2 -> value 1/2 0", "eval -7 -> value -7 0", "eval 3 - 3 -> value 0 0", "eval -4/6 -> value -2/3 0", "eval 1mm / 2mm -> value 1/2 0", "eval 1 / 2mm -> value 1/2 -1", "eval 1/2mm/1mm/1mm -> value 1/2 -3", "eval 1m * 1cm * 1in -> value 254000 3")
	// blanks ahead of the term and behind it
	checkTalk(t, "eval   1 -> value 1 0", "eval 1    -> value 1 0", "  eval    1 +   2    -> value 3 0", "eval \t 1\t+\r2 -> value 3 0", "eval 1\r -> value 1 0", "eval\t1 -> error syntax", "eval 1 mm -> error syntax", "eval  1mm  -> value 1 1", "eval 1.5cm -> value 15 1")
	// each code
	checkTalk(t, "eval + -> error syntax", "eval 1 1 -> error syntax", "eval \t -> error syntax", "eval # -> error syntax", "eval 1 # one -> error syntax", "eval 1/0 -> error zero", "eval 1 + 1mm -> error unit", "eval 1m*1m*1m*1m -> error unit", "eval a -> error name", "eval f(1) -> error name", "eval max(1, 2, 3) -> value 3 0", "eval abs(-1in) -> value 127/5 1", "eval 999999999 * 2 -> error over", "eval "+strings.Repeat("-", 21)+"1 -> error many")
	// a line's word as a term
	checkTalk(t, "eval eval -> error name", "param eval 5 -> ok", "eval eval -> value 5 0", "eval  eval  eval -> error syntax")
}

func TestConsoleFeatures(t *testing.T) {
	checkTalk(t, "block base 0 0 0 4 3 2 -> ok", "pocket slot 1 0 -1 2 3 0 base 6 -> ok", "row ribs base 2 6 0 0 -> ok", "build -> part 69 15", "faces -> face base 1 6 1|face base 2 6 1|face base 3 7 1|face base 4 7 1|face base 5 12 1|face base 6 9 2|face ribs 1 12 2|face ribs 2 12 2|face ribs 3 16 2|face ribs 4 16 2|face ribs 5 24 2|face ribs 6 24 2|face slot 1 3 1|face slot 2 3 1|face slot 5 3 1")
	// a block stands on each side of what is taken away then; on three of them it lay within that
	for side, want := range []string{1: "", 2: "1 ........#", 3: "", 4: "7 ..#", 5: "", 6: "1 ..#"} {
		if side == 0 {
			continue
		}
		turns := []string{"block base 2 1 2 8 7 8 -> ok", fmt.Sprintf("block on 0 0 0 1 1 1 base %d -> ok", side), "pocket gone 2 1 2 8 7 8 -> ok"}
		if want == "" {
			checkTalk(t, append(turns, "build -> part 0 0")...)
			continue
		}
		z := []int{2: 2, 4: 2, 6: 8}[side]
		checkTalk(t, append(turns, "build -> part 1 6", fmt.Sprintf("section %d -> %s", z, want))...)
	}
	// a row may be stood on, and is done behind what it does again
	checkTalk(t, "block a 0 0 0 1 1 1 -> ok", "row r a 3 2 0 0 -> ok", "block b 0 0 0 1 1 1 r 1 -> ok", "section 0 -> error state", "off b -> ok", "section 0 -> 0 #.#.#.#")
}

// Each line that makes a code of FeatureOrder; nothing changes then.
func TestConsoleFeaturesThatAreRefused(t *testing.T) {
	start := []string{"block a 0 0 0 2 1 1 -> ok", "row r a 2 3 0 0 -> ok", "pocket s 0 0 0 1 1 1 a 1 -> ok"}
	end := []string{"diff -> add a|add r|add s", "build -> part 5 12"}
	for word, refused := range map[string][]string{
		"error bad": {
			"block 1 0 0 0 1 1 1", "pocket a-b 0 0 0 1 1 1", "row a. a 1 1 0 0", "block " + strings.Repeat("a", 41) + " 0 0 0 1 1 1", "block min! 0 0 0 1 1 1",
			"block b 0 0 0 0 1 1", "block b 0 0 0 1 0 1", "pocket b 0 0 0 1 1 0", "block b 1 0 0 1 1 1", "block b 2 0 0 1 1 1", "block b 0 0 0 25 1 1", "block b -25 0 0 1 1 1", "pocket b 0 0 0 1 1 100", "block b 0 999999999999999999 0 1 1 1",
			"block b 0 0 0 1 1 1 a 0", "block b 0 0 0 1 1 1 a 7", "pocket b 0 0 0 1 1 1 a -1", "block b 0 0 0 1 1 1 1 1", "block b 0 0 0 1 1 1 a. 1",
			"row b a 0 1 0 0", "row b a 9 1 0 0", "row b a -1 1 0 0", "row b a 2 0 0 0", "row b a 2 25 0 0", "row b a 2 0 -25 0", "row b a 2 0 0 25", "row b 1 2 0 0 1", "row b a! 2 0 0 1",
			"block a 0 0 0 0 1 1", "block b 0 0 0 0 1 1 nowhere 1",
		},
		"error twice": {"block a 0 0 0 1 1 1", "pocket a 0 0 0 2 1 1", "row a a 1 1 0 0", "block s 0 0 0 1 1 1 a 1", "block r 0 0 0 1 1 1 nowhere 1", "row r r 1 1 0 0"},
		"error name":  {"block b 0 0 0 1 1 1 nowhere 1", "pocket b 0 0 0 1 1 1 A 6", "row b nowhere 1 1 0 0", "row b r 1 1 0 0", "row b s 1 1 0 0", "row b b 1 1 0 0"},
		"error loop":  {"block b 0 0 0 1 1 1 b 1", "pocket b 0 0 0 1 1 1 b 6"},
	} {
		for _, line := range refused {
			checkTalk(t, append(append(append([]string{}, start...), line+" -> "+word), end...)...)
		}
	}
	// what can be done is not asked as long as no part is built
	checkTalk(t, "block a -1 0 0 1 1 1 -> ok", "build -> error range", "off a -> ok", "build -> part 0 0")
}

func TestConsoleManyFeatures(t *testing.T) {
	var turns []string
	for i := range 30 {
		turns = append(turns, fmt.Sprintf("block f%d 0 0 0 %d 1 1 -> ok", i, 1+i%24))
	}
	checkTalk(t, append(turns,
		"block g 0 0 0 1 1 1 -> error many", "pocket 1 0 0 0 0 0 0 -> error many", "row f1 nowhere 1 1 0 0 -> error many", "build -> part 24 98",
		"drop f3 -> ok", "block 1 0 0 0 1 1 1 -> error bad", "block g 0 0 0 1 1 1 -> ok", "block h 0 0 0 1 1 1 -> error many", "off h -> error name", "drop h -> error none")...)
}

func TestConsoleDrop(t *testing.T) {
	checkTalk(t, "drop a -> error none", "block a 0 0 0 1 1 1 -> ok", "drop A -> error none", "drop a! -> error none", "drop a -> ok", "drop a -> error none", "build -> part 0 0")
	// one that others name, by On and by Of
	checkTalk(t, "block a 0 0 0 1 1 1 -> ok", "block b 0 0 0 1 1 1 a 6 -> ok", "drop a -> error name", "build -> part 2 10", "drop b -> ok", "drop a -> ok", "diff -> same")
	checkTalk(t, "block a 0 0 0 1 1 1 -> ok", "row r a 1 1 0 0 -> ok", "drop a -> error name", "off a -> ok", "drop a -> error name", "build -> part 0 0", "back a -> ok", "build -> part 2 10", "drop r -> ok", "build -> part 1 6", "drop a -> ok")
	checkTalk(t, "block a 0 0 0 1 1 1 -> ok", "row r a 1 1 0 0 -> ok", "block b 0 0 0 1 1 1 r 6 -> ok", "drop r -> error name", "drop b -> ok", "drop r -> ok", "drop a -> ok", "drop a -> error none")
	// the order stays that of the others
	checkTalk(t, "block a 0 0 0 2 1 1 -> ok", "pocket p 1 0 0 2 1 1 -> ok", "block c 0 0 0 2 1 1 -> ok", "build -> part 2 10", "drop c -> ok", "build -> part 1 6", "block c 0 0 0 2 1 1 -> ok", "build -> part 2 10", "drop p -> ok", "build -> part 2 6", "pocket p 1 0 0 2 1 1 -> ok", "build -> part 1 6")
}

func TestConsoleOffAndBack(t *testing.T) {
	checkTalk(t, "off a -> error name", "back a -> error name", "block a 0 0 0 1 1 1 -> ok", "back a -> error twice", "build -> part 1 6", "off a -> ok", "off a -> error twice", "build -> part 0 0", "back a -> ok", "back a -> error twice", "build -> part 1 6", "off A -> error name", "back a! -> error name")
	// what names one that is left out is left out, too, though it is not off itself
	checkTalk(t, "block a 0 0 0 1 1 1 -> ok", "block b 0 0 0 1 1 1 a 6 -> ok", "block c 5 5 5 6 6 6 -> ok", "off a -> ok", "build -> part 1 6", "back b -> error twice", "off b -> ok", "back a -> ok", "build -> part 2 12", "back b -> ok", "build -> part 3 16")
	// several are off, and come back in another order
	checkTalk(t, "block a 0 0 0 1 1 1 -> ok", "block b 2 0 0 3 1 1 -> ok", "block c 4 0 0 5 1 1 -> ok", "off b -> ok", "off a -> ok", "off c -> ok", "build -> part 0 0", "back a -> ok", "section 0 -> 0 #", "back c -> ok", "section 0 -> 0 #...#", "off a -> ok", "section 0 -> 0 ....#", "back b -> ok", "back a -> ok", "section 0 -> 0 #.#.#")
}

// A feature that is dropped is not off any more; one that is not dropped is.
func TestConsoleDropOfWhatIsOff(t *testing.T) {
	checkTalk(t, "block a 0 0 0 1 1 1 -> ok", "off a -> ok", "drop a -> ok", "off a -> error name", "back a -> error name", "block a 0 0 0 2 1 1 -> ok", "build -> part 2 6", "back a -> error twice", "off a -> ok", "build -> part 0 0")
	checkTalk(t, "block a 0 0 0 1 1 1 -> ok", "block b 0 0 0 1 1 1 a 6 -> ok", "off b -> ok", "off a -> ok", "drop a -> error name", "back a -> ok", "build -> part 1 6", "drop b -> ok", "drop a -> ok", "block b 0 0 0 1 1 2 -> ok", "build -> part 2 6")
	checkTalk(t, "block a 0 0 0 1 1 1 -> ok", "block b 2 0 0 3 1 1 -> ok", "off a -> ok", "off b -> ok", "drop a -> ok", "build -> part 0 0", "off b -> error twice", "block a 0 0 0 1 1 1 -> ok", "build -> part 1 6", "back b -> ok", "build -> part 2 12")
}

func TestConsoleSaveAndDiff(t *testing.T) {
	checkTalk(t, "diff -> same", "save -> ok", "diff -> same", "block b 0 0 0 1 1 1 -> ok", "diff -> add b", "block a 0 0 0 2 1 1 -> ok", "diff -> add a|add b", "diff -> add a|add b", "save -> ok", "diff -> same")
	// another one of that name; a change back; another order
	checkTalk(t, "block a 0 0 0 1 1 1 -> ok", "block b 0 0 0 1 1 1 -> ok", "save -> ok",
		"drop a -> ok", "diff -> drop a", "block a 0 0 0 2 1 1 -> ok", "diff -> turn a", "drop a -> ok", "pocket a 0 0 0 1 1 1 -> ok", "diff -> turn a", "drop a -> ok", "block a 0 0 0 1 1 1 -> ok", "diff -> same",
		"drop b -> ok", "block b 0 0 0 1 1 1 a 6 -> ok", "diff -> turn b", "row c a 1 1 0 0 -> ok", "diff -> turn b|add c", "drop b -> ok", "diff -> drop b|add c", "drop c -> ok", "drop a -> ok", "diff -> drop a|drop b", "save -> ok", "diff -> same")
	// what is off is no change, nor what was refused
	checkTalk(t, "block a 0 0 0 1 1 1 -> ok", "save -> ok", "off a -> ok", "diff -> same", "block a 0 0 0 2 1 1 -> error twice", "diff -> same", "back a -> ok", "drop a -> ok", "block a 0 0 0 0 1 1 -> error bad", "diff -> drop a")
	// what is saved stays as it is, whatever the features become
	checkTalk(t, "block c 0 0 0 1 1 1 -> ok", "block b 0 0 0 1 1 1 -> ok", "block a 0 0 0 1 1 1 -> ok", "save -> ok", "drop c -> ok", "diff -> drop c", "block d 0 0 0 1 1 1 -> ok", "diff -> drop c|add d", "drop a -> ok", "diff -> drop a|drop c|add d", "block c 0 0 0 1 1 1 -> ok", "block e 0 0 0 1 1 1 -> ok", "diff -> drop a|add d|add e")
	// names as texts
	checkTalk(t, "block é 0 0 0 1 1 1 -> ok", "block z 0 0 0 1 1 1 -> ok", "block Z 0 0 0 1 1 1 -> ok", "block _ 0 0 0 1 1 1 -> ok", "block a1 0 0 0 1 1 1 -> ok", "block a 0 0 0 1 1 1 -> ok", "diff -> add Z|add _|add a|add a1|add z|add é")
}
