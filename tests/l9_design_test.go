package tests

import (
	"fmt"
	"math"
	"regexp"
	"slices"
	"strings"
	"testing"

	"loop.example/g01023/impl"
)

// programOf returns the Designs for which a text stands, made without the program; their numbers may be any.
func programOf(text string) []impl.Design {
	program := []impl.Design{}
	for _, word := range strings.Fields(text) {
		d := impl.Design{Kind: strings.Index("?ptmburcsx", word[:1])}
		switch word[0] {
		case 'p':
			fmt.Sscanf(word, "p%d.%d.%d", &d.A, &d.B, &d.C)
		case 'r':
			fmt.Sscanf(word, "r%d", &d.A)
		case 'x':
			fmt.Sscanf(word, "x%d.%d", &d.A, &d.B)
		}
		program = append(program, d)
	}
	return program
}

// wordFor returns what stands for a valid Design in a text, made without the program.
func wordFor(d impl.Design) string {
	switch d.Kind {
	case impl.DesignPlain:
		return fmt.Sprintf("p%d.%d.%d", d.A, d.B, d.C)
	case impl.DesignRing:
		return fmt.Sprintf("r%d", d.A)
	case impl.DesignRepeat:
		return fmt.Sprintf("x%d.%d", d.A, d.B)
	}
	return "?ptmburcsx"[d.Kind : d.Kind+1]
}

var designWords = regexp.MustCompile(`^((p[1-8]\.[1-8]\.[0-5]|[tmbucs]|r[0-5]|x[1-8]\.[1-8])( |$))*$`)

// isDesignText tells whether some program has a text.
func isDesignText(text string) bool {
	return designWords.MatchString(text) && !strings.HasSuffix(text, " ") && strings.Count(text, " ") < 20
}

// isDesignByRules tells from the rules of the document whether a Design is valid.
func isDesignByRules(d impl.Design) bool {
	isSide := func(n int) bool { return 1 <= n && n <= 8 }
	isColor := func(n int) bool { return 0 <= n && n <= 5 }
	switch d.Kind {
	case 1:
		return isSide(d.A) && isSide(d.B) && isColor(d.C)
	case 6:
		return isColor(d.A) && d.B == 0 && d.C == 0
	case 9:
		return isSide(d.A) && isSide(d.B) && d.C == 0
	case 2, 3, 4, 5, 7, 8:
		return d.A == 0 && d.B == 0 && d.C == 0
	}
	return false
}

// allDesigns returns each valid Design.
func allDesigns() []impl.Design {
	var designs []impl.Design
	for _, word := range []string{"t", "m", "b", "u", "c", "s"} {
		designs = append(designs, programOf(word)...)
	}
	for a := 1; a <= 8; a++ {
		for b := 1; b <= 8; b++ {
			for c := range 6 {
				designs = append(designs, impl.Design{Kind: impl.DesignPlain, A: a, B: b, C: c})
			}
			designs = append(designs, impl.Design{Kind: impl.DesignRepeat, A: a, B: b})
		}
	}
	for a := range 6 {
		designs = append(designs, impl.Design{Kind: impl.DesignRing, A: a})
	}
	return designs
}

// invalidDesigns returns Designs that are not valid, some of which a careless check takes.
func invalidDesigns() []impl.Design {
	var designs []impl.Design
	for _, kind := range []int{math.MinInt, -1, 0, 10, 11, math.MaxInt} {
		designs = append(designs, impl.Design{Kind: kind}, impl.Design{Kind: kind, A: 1, B: 1}, impl.Design{Kind: kind, A: 1, B: 1, C: 1})
	}
	for _, kind := range []int{2, 3, 4, 5, 7, 8} {
		for _, n := range []int{-1, 1, math.MinInt, math.MaxInt} {
			designs = append(designs, impl.Design{Kind: kind, A: n}, impl.Design{Kind: kind, B: n}, impl.Design{Kind: kind, C: n})
		}
	}
	for _, n := range []int{math.MinInt, -1, 0, 9, math.MaxInt} {
		designs = append(designs, impl.Design{Kind: 1, A: n, B: 1}, impl.Design{Kind: 1, A: 1, B: n}, impl.Design{Kind: 9, A: n, B: 1}, impl.Design{Kind: 9, A: 1, B: n})
	}
	for _, n := range []int{math.MinInt, -1, 6, math.MaxInt} {
		designs = append(designs, impl.Design{Kind: 1, A: 1, B: 1, C: n}, impl.Design{Kind: 6, A: n})
	}
	for _, n := range []int{math.MinInt, -1, 1, math.MaxInt} {
		designs = append(designs, impl.Design{Kind: 6, B: n}, impl.Design{Kind: 6, C: n}, impl.Design{Kind: 9, A: 1, B: 1, C: n})
	}
	return designs
}

// invalidPrograms returns lists that are no programs.
func invalidPrograms() [][]impl.Design {
	programs := [][]impl.Design{
		make([]impl.Design, 1),
		programOf("p1.1.0" + strings.Repeat(" t", 20)),
		programOf("p1.1.0" + strings.Repeat(" t", 21)),
		make([]impl.Design, 21),
		make([]impl.Design, 1000),
	}
	for _, bad := range invalidDesigns() {
		programs = append(programs,
			[]impl.Design{bad},
			append(programOf("p1.1.0"), bad),
			append([]impl.Design{bad}, programOf("p1.1.0")...),
			// What comes after a Design that fails is checked, too.
			append(programOf("t"), bad),
			append(programOf("p1.1.0"+strings.Repeat(" t", 18)), bad),
		)
	}
	return programs
}

// turnedRows returns rows of letters after a quarter turn to the right.
func turnedRows(rows []string) []string {
	turned := make([]string, len(rows[0]))
	for col := range turned {
		for _, row := range rows {
			turned[col] = row[col:col+1] + turned[col]
		}
	}
	return turned
}

// mirroredRows returns rows of letters mirrored from left to right.
func mirroredRows(rows []string) []string {
	var mirrored []string
	for _, row := range rows {
		back := ""
		for i := range len(row) {
			back = row[i:i+1] + back
		}
		mirrored = append(mirrored, back)
	}
	return mirrored
}

// besideRows returns rows of letters with others at their right, and whether these are as many.
func besideRows(left, right []string) ([]string, bool) {
	if len(left) != len(right) {
		return nil, false
	}
	var rows []string
	for i := range left {
		rows = append(rows, left[i]+right[i])
	}
	return rows, true
}

// ringedRows returns rows of letters with a letter around them.
func ringedRows(rows []string, letter string) []string {
	edge := strings.Repeat(letter, len(rows[0])+2)
	ringed := []string{edge}
	for _, row := range rows {
		ringed = append(ringed, letter+row+letter)
	}
	return append(ringed, edge)
}

// repeatedRows returns rows of letters across times side by side, and this down times below each other.
func repeatedRows(rows []string, across, down int) []string {
	var repeated []string
	for range down {
		for _, row := range rows {
			repeated = append(repeated, strings.Repeat(row, across))
		}
	}
	return repeated
}

func letterOf(color int) string { return "abcdef"[color : color+1] }

// designByRows carries out a valid Design with a stack of Charts that are rows of letters, the top one last, and tells whether it does not fail.
func designByRows(stack [][]string, d impl.Design) ([][]string, bool) {
	needs := map[int]int{impl.DesignPlain: 0, impl.DesignBeside: 2, impl.DesignBelow: 2, impl.DesignSwap: 2}
	need, known := needs[d.Kind]
	if !known {
		need = 1
	}
	if len(stack) < need {
		return nil, false
	}
	rest, taken := stack[:len(stack)-need], stack[len(stack)-need:]
	var put [][]string
	fits := true
	switch d.Kind {
	case impl.DesignPlain:
		put = [][]string{repeatedRows([]string{letterOf(d.C)}, d.A, d.B)}
	case impl.DesignTurn:
		put = [][]string{turnedRows(taken[0])}
	case impl.DesignMirror:
		put = [][]string{mirroredRows(taken[0])}
	case impl.DesignBeside:
		rows, same := besideRows(taken[0], taken[1])
		put, fits = [][]string{rows}, same
	case impl.DesignBelow:
		put, fits = [][]string{slices.Concat(taken[0], taken[1])}, len(taken[0][0]) == len(taken[1][0])
	case impl.DesignRing:
		put = [][]string{ringedRows(taken[0], letterOf(d.A))}
	case impl.DesignCopy:
		put = [][]string{taken[0], taken[0]}
	case impl.DesignSwap:
		put = [][]string{taken[1], taken[0]}
	case impl.DesignRepeat:
		put = [][]string{repeatedRows(taken[0], d.A, d.B)}
	}
	for _, rows := range put {
		fits = fits && len(rows) <= 8 && len(rows[0]) <= 8
	}
	after := slices.Concat(rest, put)
	return after, fits && len(after) <= 4
}

// stacksByRows returns the stack after each Design of a program, as far as none fails.
func stacksByRows(program []impl.Design) [][][]string {
	var stacks [][][]string
	var stack [][]string
	for _, d := range program {
		after, ok := designByRows(stack, d)
		if !ok {
			break
		}
		stack = after
		stacks = append(stacks, after)
	}
	return stacks
}

// checkRun checks what RunDesign, FailsAt and StackSizes tell about a program against the rules.
func checkRun(t *testing.T, program []impl.Design) {
	t.Helper()
	stacks := stacksByRows(program)
	if n, ok := impl.FailsAt(program); !ok || n != len(stacks) {
		t.Fatalf("FailsAt(%v) = %d, %v, not %d", program, n, ok, len(stacks))
	}
	var want []int
	for _, stack := range stacks {
		want = append(want, len(stack))
	}
	if sizes, ok := impl.StackSizes(program); !ok || !slices.Equal(sizes, want) {
		t.Fatalf("StackSizes(%v) = %v, %v, not %v", program, sizes, ok, want)
	}
	c, ok := impl.RunDesign(program)
	if len(stacks) < len(program) || len(want) == 0 || want[len(want)-1] != 1 {
		if ok || !isNoChart(c) {
			t.Fatalf("RunDesign(%v) = %v, %v", program, c, ok)
		}
		return
	}
	if rows := stacks[len(stacks)-1][0]; !ok || !sameChart(c, chartOf(rows...)) || !impl.IsChart(c) {
		t.Fatalf("RunDesign(%v) = %v, %v, not %v", program, c, ok, rows)
	}
}

// shortPrograms returns all programs of a few Designs with at most length of them, but for those in which one comes after a Design that fails.
func shortPrograms(length int) [][]impl.Design {
	kit := programOf("p1.1.0 p2.1.1 p1.3.2 p4.5.5 p8.6.3 t m b u r0 r4 c s x1.1 x2.1 x1.2 x3.8")
	programs := [][]impl.Design{{}}
	last := programs
	for range length {
		var next [][]impl.Design
		for _, program := range last {
			if len(stacksByRows(program)) < len(program) {
				continue
			}
			for _, d := range kit {
				next = append(next, append(slices.Clone(program), d))
			}
		}
		programs = append(programs, next...)
		last = next
	}
	return programs
}

// mixedProgram returns a program of a length, depending on a seed; most of its Designs do not fail.
func mixedProgram(length, seed int) []impl.Design {
	next := dyeNumbers(seed*31 + length)
	program := []impl.Design{}
	for len(program) < length {
		d := impl.Design{Kind: next(9) + 1}
		switch d.Kind {
		case impl.DesignPlain:
			d.A, d.B, d.C = next(3)+1, next(3)+1, next(6)
		case impl.DesignRing:
			d.A = next(6)
		case impl.DesignRepeat:
			d.A, d.B = next(3)+1, next(3)+1
		}
		longer := append(slices.Clone(program), d)
		if next(60) == 0 || len(stacksByRows(longer)) == len(longer) {
			program = longer
		}
	}
	return program
}

// mixedPrograms returns programs of all lengths.
func mixedPrograms() [][]impl.Design {
	var programs [][]impl.Design
	for length := range impl.MaxDesign + 1 {
		for seed := range 60 {
			programs = append(programs, mixedProgram(length, seed))
		}
	}
	return programs
}

func TestDesignConstants(t *testing.T) {
	kinds := []int{
		impl.DesignPlain, impl.DesignTurn, impl.DesignMirror, impl.DesignBeside, impl.DesignBelow,
		impl.DesignRing, impl.DesignCopy, impl.DesignSwap, impl.DesignRepeat,
	}
	if !slices.Equal(kinds, []int{1, 2, 3, 4, 5, 6, 7, 8, 9}) {
		t.Error("kinds", kinds)
	}
	if impl.MaxDesign != 20 || impl.MaxStack != 4 {
		t.Error("limits", impl.MaxDesign, impl.MaxStack)
	}
}

func TestIsProgramByRules(t *testing.T) {
	if !impl.IsProgram(nil) || !impl.IsProgram([]impl.Design{}) {
		t.Error("a program may be empty")
	}
	for _, d := range allDesigns() {
		if !impl.IsProgram([]impl.Design{d}) {
			t.Errorf("%v is valid", d)
		}
	}
	for _, d := range invalidDesigns() {
		if impl.IsProgram([]impl.Design{d}) {
			t.Errorf("%v is not valid", d)
		}
	}
	numbers := oddNumbers()
	for _, kind := range append(numbers, 4, 10) {
		for _, a := range numbers {
			for _, b := range numbers {
				for _, c := range numbers {
					d := impl.Design{Kind: kind, A: a, B: b, C: c}
					if is := impl.IsProgram([]impl.Design{d}); is != isDesignByRules(d) {
						t.Errorf("IsProgram([%v]) = %v", d, is)
					}
				}
			}
		}
	}
}

func TestIsProgramLimitsItsLength(t *testing.T) {
	for length := range 45 {
		for _, d := range programOf("t r5 p8.8.5 x8.8") {
			program := slices.Repeat([]impl.Design{d}, length)
			if is := impl.IsProgram(program); is != (length <= 20) {
				t.Errorf("IsProgram with %d times %v is %v", length, d, is)
			}
		}
	}
	if impl.IsProgram(slices.Repeat(programOf("t"), 100000)) {
		t.Error("too long")
	}
}

func TestIsProgramChecksEachDesign(t *testing.T) {
	for length := 1; length <= 20; length++ {
		for _, bad := range invalidDesigns() {
			for at := range length {
				program := slices.Repeat(programOf("t"), length)
				program[at] = bad
				if impl.IsProgram(program) {
					t.Errorf("%v is no program", program)
				}
			}
		}
	}
	for _, program := range invalidPrograms() {
		if impl.IsProgram(program) {
			t.Errorf("%v is no program", program)
		}
	}
}

func TestRunDesign(t *testing.T) {
	for _, c := range []struct {
		program string
		want    impl.Chart
	}{
		{"p1.1.0", chartOf("a")},
		{"p2.3.1", chartOf("bb", "bb", "bb")},
		{"p3.2.5", chartOf("fff", "fff")},
		{"p8.1.2", chartOf("cccccccc")},
		{"p1.8.2", chartOf("c", "c", "c", "c", "c", "c", "c", "c")},
		{"p2.3.1 c b r0", chartOf("aaaaaa", "abbbba", "abbbba", "abbbba", "aaaaaa")},
		{"p2.3.1 t", chartOf("bbb", "bbb")},
		// The lower Chart stands at the left, or above.
		{"p1.1.0 p1.1.1 b", chartOf("ab")},
		{"p1.1.0 p1.1.1 u", chartOf("a", "b")},
		{"p1.1.0 p1.1.1 s b", chartOf("ba")},
		{"p1.1.0 p1.1.1 s u", chartOf("b", "a")},
		{"p1.2.0 p3.2.1 b", chartOf("abbb", "abbb")},
		{"p2.1.0 p2.3.1 u", chartOf("aa", "bb", "bb", "bb")},
		// The left column comes to the top, from the bottom up.
		{"p1.1.0 p1.1.1 b t", chartOf("a", "b")},
		{"p1.1.0 p1.1.1 u t", chartOf("ba")},
		{"p1.1.0 p1.1.1 b t t", chartOf("ba")},
		{"p1.1.0 p1.1.1 b m", chartOf("ba")},
		{"p1.1.0 p1.1.1 u m", chartOf("a", "b")},
		{"p1.1.0 p1.1.1 b c m u", chartOf("ab", "ba")},
		{"p1.1.0 p1.1.1 b p1.1.2 p1.1.3 b u t", chartOf("ca", "db")},
		{"p1.1.0 r1", chartOf("bbb", "bab", "bbb")},
		{"p2.1.0 r1 r2", chartOf("cccccc", "cbbbbc", "cbaabc", "cbbbbc", "cccccc")},
		{"p1.1.0 p1.1.1 b x2.3", chartOf("abab", "abab", "abab")},
		{"p1.1.0 p1.1.1 b x3.1", chartOf("ababab")},
		{"p1.1.0 p1.1.1 b x1.3", chartOf("ab", "ab", "ab")},
		{"p1.1.0 p1.1.1 b x1.1", chartOf("ab")},
		// Of three Charts, those at the top are joined first, and only these two are swapped.
		{"p1.1.0 p1.1.1 p1.1.2 b b", chartOf("abc")},
		{"p1.1.0 p1.1.1 p1.1.2 s b b", chartOf("acb")},
		{"p1.1.0 p1.1.1 p1.1.2 b s b", chartOf("bca")},
		{"p1.1.0 p1.1.1 p1.1.2 p1.1.3 b b b", chartOf("abcd")},
		{"p1.1.0 p1.1.1 p1.1.2 p1.1.3 s b s b s b", chartOf("dcba")},
		// A copy stays as it is when the other one changes.
		{"p1.1.0 p1.1.1 b c m b", chartOf("abba")},
		{"p1.1.0 p1.1.1 b c m s b", chartOf("baab")},
		{"p1.1.0 p1.1.1 b c x2.1 u c", impl.Chart{}},
		{"p1.1.0 c r1 s r2 u", chartOf("bbb", "bab", "bbb", "ccc", "cac", "ccc")},
		{"p1.1.0" + strings.Repeat(" t", 19), chartOf("a")},
		{"p1.1.0 p1.1.1 b" + strings.Repeat(" m", 17), chartOf("ba")},
	} {
		program := programOf(c.program)
		if got, ok := impl.RunDesign(program); ok == isNoChart(c.want) || !sameChart(got, c.want) {
			t.Errorf("RunDesign of %q is %v, %v", c.program, got, ok)
		}
		checkRun(t, program)
	}
}

func TestRunDesignRefuses(t *testing.T) {
	for _, text := range []string{
		// There is no Chart at the end, or there are several.
		"", "p1.1.0 p1.1.0", "p1.1.0 c", "p1.1.0 c c", "p1.1.0 c c c", "p1.1.0 p1.1.1 p1.1.2 b", "p1.1.0 p1.1.1 s",
		// There are too few Charts.
		"t", "m", "b", "u", "r0", "c", "s", "x1.1", "p1.1.0 b", "p1.1.0 u", "p1.1.0 s", "p1.1.0 c b b", "t p1.1.0", "b p1.1.0",
		// There are too many.
		"p1.1.0 p1.1.0 p1.1.0 p1.1.0 p1.1.0 b b b b", "p1.1.0 c c c c b b b b", "p1.1.0 c c c p1.1.0 b b b b",
		// They do not fit to each other.
		"p1.1.0 p1.2.0 b", "p1.2.0 p1.1.0 b", "p1.1.0 p2.1.0 u", "p2.1.0 p1.1.0 u",
		// They become too great.
		"p8.1.0 p1.1.0 b", "p1.8.0 p1.1.0 u", "p7.1.0 r0", "p1.7.0 r0", "p8.8.0 r0", "p1.1.0 x8.8 r0", "p2.1.0 x5.1", "p1.2.0 x1.5", "p8.8.0 x2.2",
		// One that fails is not left out.
		"b p1.1.0", "p1.1.0 u t", "p1.1.0 s m", "p7.7.0 r1 t", "p5.5.0 x2.2 m",
	} {
		program := programOf(text)
		if c, ok := impl.RunDesign(program); ok || !isNoChart(c) {
			t.Errorf("RunDesign of %q is %v, %v", text, c, ok)
		}
		checkRun(t, program)
	}
}

func TestFailsAt(t *testing.T) {
	for text, want := range map[string]int{
		"":                                  0,
		"t":                                 0,
		"b p1.1.0":                          0,
		"p1.1.0":                            1,
		"p1.1.0 b":                          1,
		"p1.1.0 b t":                        1,
		"p1.1.0 b b":                        1,
		"p1.1.0 s p1.1.0":                   1,
		"p1.1.0 c":                          2,
		"p1.1.0 c c c":                      4,
		"p1.1.0 c c c c":                    4,
		"p1.1.0 c c c p1.1.0":               4,
		"p1.1.0 c c c b c c":                6,
		"p1.1.0 c c c b c s c b":            7,
		"p1.1.0 p1.2.0 b":                   2,
		"p1.1.0 p1.2.0 u":                   3,
		"p8.8.0 r0":                         1,
		"p6.6.0 r0":                         2,
		"p6.6.0 r0 r0":                      2,
		"p1.1.0" + strings.Repeat(" t", 19): 20,
		"p1.1.0" + strings.Repeat(" t", 18) + " b":    19,
		"p1.1.0" + strings.Repeat(" c b t", 6) + " u": 19,
	} {
		program := programOf(text)
		if n, ok := impl.FailsAt(program); !ok || n != want {
			t.Errorf("FailsAt of %q is %d, %v", text, n, ok)
		}
		checkRun(t, program)
	}
}

func TestStackSizes(t *testing.T) {
	for text, want := range map[string][]int{
		"":                                  {},
		"t":                                 {},
		"t p1.1.0":                          {},
		"p1.1.0":                            {1},
		"p1.1.0 b":                          {1},
		"p1.1.0 b t m":                      {1},
		"p2.3.1 c b r0":                     {1, 2, 1, 1},
		"p1.1.0 c c c":                      {1, 2, 3, 4},
		"p1.1.0 c c c c":                    {1, 2, 3, 4},
		"p1.1.0 c c c p1.1.0":               {1, 2, 3, 4},
		"p1.1.0 c c c s t m r0 x1.1":        {1, 2, 3, 4, 4, 4, 4, 4, 4},
		"p1.1.0 c c c b p1.1.0 u u u":       {1, 2, 3, 4, 3, 4},
		"p1.1.0 c c c u p1.2.0 b s m":       {1, 2, 3, 4, 3, 4, 3, 3, 3},
		"p1.1.0 p1.1.1 p1.1.2 b b b":        {1, 2, 3, 2, 1},
		"p1.1.0 r0 r0 r0 r0":                {1, 1, 1, 1},
		"p1.1.0 x2.2 x2.2 x2.2 x2.2":        {1, 1, 1, 1},
		"p1.1.0 p1.1.0 x8.1 x1.8 b":         {1, 2, 2, 2},
		"p1.1.0 p8.8.0 s u":                 {1, 2, 2},
		"p8.1.5 t p1.1.0 b p1.8.0 p7.8.1 b": {1, 1, 2},
	} {
		program := programOf(text)
		if sizes, ok := impl.StackSizes(program); !ok || !slices.Equal(sizes, want) {
			t.Errorf("StackSizes of %q is %v, %v", text, sizes, ok)
		}
		checkRun(t, program)
	}
}

// Each Design needs as many Charts as it takes, and may leave 4, but not 5.
func TestStackIsAtMostFour(t *testing.T) {
	least := map[string]int{"p1.1.1": 0, "t": 1, "m": 1, "b": 2, "u": 2, "r1": 1, "c": 1, "s": 2, "x2.2": 1}
	change := map[string]int{"p1.1.1": 1, "c": 1, "b": -1, "u": -1}
	for word, need := range least {
		for size := range 5 {
			for _, start := range []string{"p1.1.0", "c"} {
				text := ""
				if size > 0 {
					text = "p1.1.0" + strings.Repeat(" "+start, size-1)
				}
				program := append(programOf(text), programOf(word)...)
				fits := size >= need && size+change[word] <= 4
				if n, ok := impl.FailsAt(program); !ok || n != size && !fits || n != size+1 && fits {
					t.Errorf("%q after %q fails at %d, %v", word, text, n, ok)
				}
				sizes, ok := impl.StackSizes(program)
				want := []int{1, 2, 3, 4}[:size]
				if fits {
					want = append(slices.Clone(want), size+change[word])
				}
				if !ok || !slices.Equal(sizes, want) {
					t.Errorf("%q after %q has the stack sizes %v, %v", word, text, sizes, ok)
				}
				checkRun(t, program)
			}
		}
	}
	// A stack may be full again and again, and in the longest program.
	full := programOf("p1.1.0 c c c b c b c b p1.2.0 b c b c b c b c b s")
	if sizes, ok := impl.StackSizes(full[:9]); !ok || !slices.Equal(sizes, []int{1, 2, 3, 4, 3, 4, 3, 4, 3}) {
		t.Error("full again", sizes, ok)
	}
	checkRun(t, full)
	if c, ok := impl.RunDesign(programOf("p1.1.0 p1.1.1 p1.1.2 p1.1.3 s s s s s s s s s s s s s b b b")); !ok || !sameChart(c, chartOf("abdc")) {
		t.Error("20 Designs", c, ok)
	}
	// A stack that has become too great does not count as one that was left at 4.
	if c, ok := impl.RunDesign(programOf("p1.1.0 p1.1.1 p1.1.2 p1.1.3 p1.1.4 b b b")); ok || !isNoChart(c) {
		t.Error("5 Charts", c, ok)
	}
}

// The Charts that a Design makes may have sides of 8, but not of 9.
func TestDesignsLimitTheSides(t *testing.T) {
	plain := func(width, height int) string { return fmt.Sprintf("p%d.%d.0", width, height) }
	for a := 1; a <= 8; a++ {
		for b := 1; b <= 8; b++ {
			for c := 1; c <= 8; c++ {
				for _, x := range []struct {
					text          string
					width, height int
					fits          bool
				}{
					{plain(a, c) + " " + plain(b, c) + " b", a + b, c, true},
					{plain(c, a) + " " + plain(c, b) + " u", c, a + b, true},
					{plain(a, b) + " r1", a + 2, b + 2, true},
					{plain(a, b) + fmt.Sprintf(" x%d.1", c), a * c, b, true},
					{plain(a, b) + fmt.Sprintf(" x1.%d", c), a, b * c, true},
					{plain(a, b) + fmt.Sprintf(" x%d.%d", c, c), a * c, b * c, true},
					{plain(a, b) + " " + plain(8-a+1, c) + " b", 9, b, false},
					{plain(a, b) + " " + plain(1, c) + " b", a + 1, b, b == c},
					{plain(a, b) + " " + plain(c, 1) + " u", a, b + 1, a == c},
				} {
					fits := x.fits && x.width <= 8 && x.height <= 8
					got, ok := impl.RunDesign(programOf(x.text))
					if ok != fits || fits && (got.Width != x.width || got.Height != x.height) || !fits && !isNoChart(got) {
						t.Errorf("RunDesign of %q is %v, %v", x.text, got, ok)
					}
					checkRun(t, programOf(x.text))
				}
			}
		}
	}
}

func TestDesignsByRows(t *testing.T) {
	for _, program := range shortPrograms(4) {
		checkRun(t, program)
	}
	whole, full := 0, 0
	for _, program := range mixedPrograms() {
		checkRun(t, program)
		if sizes, _ := impl.StackSizes(program); len(sizes) > 0 && slices.Max(sizes) == 4 {
			full++
		}
		if _, ok := impl.RunDesign(program); ok {
			whole++
		}
	}
	if whole < 100 || full < 100 {
		t.Errorf("only %d programs leave one Chart, and %d come to 4", whole, full)
	}
	// What follows a Design that fails changes nothing.
	for _, program := range shortPrograms(2) {
		if len(stacksByRows(program)) == len(program) {
			continue
		}
		for _, d := range programOf("p1.1.0 t c b s") {
			checkRun(t, append(slices.Clone(program), d))
		}
	}
}

// Each Design changes the top of a stack, and leaves what is below it.
func TestDesignsAlone(t *testing.T) {
	for _, d := range allDesigns() {
		for _, text := range []string{"", "p1.1.0", "p1.1.0 p2.1.1", "p3.2.0 p3.2.1", "p1.1.2 p1.2.3 p1.1.0 p1.1.1 b", "p1.1.2 p1.2.3 p1.1.0 p1.1.1 u", "p2.2.0 p1.2.1 p1.2.2 p2.2.3"} {
			program := append(programOf(text), d)
			checkRun(t, program)
			// What lies in the stack comes out when it is joined.
			for _, end := range []string{"b", "u", "b b", "u b", "b u", "b b b"} {
				checkRun(t, append(slices.Clone(program), programOf(end)...))
			}
		}
	}
}

// What is put below or beside one of two copies does not come into the other one, however both were made.
func TestCopiesStayApart(t *testing.T) {
	for height := 1; height <= 7; height++ {
		for _, change := range []string{"", " t t", " t m t", " x1.1", " t x1.1 t", " m t t"} {
			column := fmt.Sprintf("p1.%d.0", height) + change
			checkRun(t, programOf(column+" c p1.1.1 u s p1.1.2 u b"))
			checkRun(t, programOf(column+" t c p1.1.1 b s p1.1.2 b u"))
		}
	}
	if c, ok := impl.RunDesign(programOf("p5.1.0 t c p1.1.1 u s p1.1.2 u b")); !ok || !sameChart(c, chartOf("aa", "aa", "aa", "aa", "aa", "bc")) {
		t.Error("two copies with one more knot", c, ok)
	}
}

func TestDesignText(t *testing.T) {
	for text, program := range map[string][]impl.Design{
		"":              {},
		"p2.3.1 c b r0": {{Kind: impl.DesignPlain, A: 2, B: 3, C: 1}, {Kind: impl.DesignCopy}, {Kind: impl.DesignBeside}, {Kind: impl.DesignRing, A: 0}},
		"p1.8.5 t m b u r5 c s x8.1": {
			{Kind: impl.DesignPlain, A: 1, B: 8, C: 5}, {Kind: impl.DesignTurn}, {Kind: impl.DesignMirror}, {Kind: impl.DesignBeside}, {Kind: impl.DesignBelow},
			{Kind: impl.DesignRing, A: 5}, {Kind: impl.DesignCopy}, {Kind: impl.DesignSwap}, {Kind: impl.DesignRepeat, A: 8, B: 1},
		},
		"x1.8":                              {{Kind: impl.DesignRepeat, A: 1, B: 8}},
		"p8.1.0":                            {{Kind: impl.DesignPlain, A: 8, B: 1, C: 0}},
		"t" + strings.Repeat(" t", 19):      slices.Repeat([]impl.Design{{Kind: impl.DesignTurn}}, 20),
		"u" + strings.Repeat(" p8.8.5", 19): append([]impl.Design{{Kind: impl.DesignBelow}}, slices.Repeat([]impl.Design{{Kind: impl.DesignPlain, A: 8, B: 8, C: 5}}, 19)...),
	} {
		if got, ok := impl.DesignText(program); !ok || got != text {
			t.Errorf("DesignText(%v) = %q, %v", program, got, ok)
		}
		if back, ok := impl.ParseDesign(text); !ok || !slices.Equal(back, program) {
			t.Errorf("ParseDesign(%q) = %v, %v", text, back, ok)
		}
	}
	if text, ok := impl.DesignText(nil); !ok || text != "" {
		t.Errorf("DesignText(nil) = %q, %v", text, ok)
	}
}

// Each Design has a word, and each pair of them is two words with a space.
func TestEachDesignHasAWord(t *testing.T) {
	words := map[string]bool{}
	before, word := impl.Design{Kind: impl.DesignSwap}, "s"
	for _, d := range allDesigns() {
		for want, program := range map[string][]impl.Design{wordFor(d): {d}, word + " " + wordFor(d): {before, d}} {
			text, ok := impl.DesignText(program)
			if !ok || text != want || !isDesignText(text) {
				t.Fatalf("DesignText(%v) = %q, %v", program, text, ok)
			}
			if back, ok := impl.ParseDesign(text); !ok || !slices.Equal(back, program) {
				t.Fatalf("ParseDesign(%q) = %v, %v", text, back, ok)
			}
		}
		before, word = d, wordFor(d)
		words[word] = true
	}
	if len(words) != 6+64*6+64+6 {
		t.Errorf("there are %d words", len(words))
	}
}

// Promise 9: a program does the same after its text is read back.
func TestProgramReadBackDoesTheSame(t *testing.T) {
	whole := 0
	for _, program := range slices.Concat(shortPrograms(3), mixedPrograms()) {
		text, ok := impl.DesignText(program)
		if !ok || !isDesignText(text) {
			t.Fatalf("DesignText(%v) = %q, %v", program, text, ok)
		}
		back, ok := impl.ParseDesign(text)
		if !ok || !slices.Equal(back, program) || !impl.IsProgram(back) {
			t.Fatalf("%v with the text %q is read back as %v, %v", program, text, back, ok)
		}
		c, one := impl.RunDesign(program)
		again, two := impl.RunDesign(back)
		if one != two || !sameChart(c, again) {
			t.Fatalf("%q makes %v, %v, and read back %v, %v", text, c, one, again, two)
		}
		if one {
			whole++
		}
		if first, second := designAnswers(program), designAnswers(back); first != second {
			t.Fatalf("%q does %s, and read back %s", text, first, second)
		}
		if twice, ok := impl.DesignText(back); !ok || twice != text {
			t.Fatalf("%q read back has the text %q, %v", text, twice, ok)
		}
	}
	if whole < 300 {
		t.Errorf("only %d programs make a Chart", whole)
	}
}

func TestParseDesignRefuses(t *testing.T) {
	texts := []string{
		" ", "  ", "\t", "\n", " t", "t ", "t  t", "t\tt", "t\nt", "t\n", "t\u00a0t", "t\u2003t", "t,t", "tt", "tm", "t.t", "t\x00", "\x00",
		"q", "P1.1.1", "T", "M", "a", "0", "1", ".", "?", "é", "\xff", "-", "pt",
		"t0", "t1", "t.", "m0", "b0", "u0", "c0", "s0", "c.", "s0.0", "b1.1.1", "t-0", "t+",
		"p", "p1", "p1.1", "p1.1.", "p1..1", "p.1.1", "p..", "p...", "p1.1.1.", "p1.1.1.1", "p1.1.1.0", ".p1.1.1", "p.1.1.1", "p1,1,1", "p1 1 1", "p1.1 .1", "p 1.1.1",
		"p0.1.0", "p1.0.0", "p9.1.0", "p1.9.0", "p10.1.0", "p1.1.6", "p1.1.10", "p-1.1.0", "p1.-1.0", "p1.1.-1", "p1.1.-0", "p+1.1.0", "p1.+1.0", "p1.1.+0",
		"p01.1.0", "p1.01.0", "p1.1.00", "p1.1.05", "px.1.0", "p1.x.0", "p1.1.x", "p1e0.1.0", "p0x1.1.0", "p1.1.0x", "p\xd9\xa1.1.0", "p1_0.1.0",
		"p18446744073709551617.1.0", "p1.18446744073709551617.0", "p1.1.18446744073709551616",
		"r", "r6", "r-1", "r-0", "r00", "r01", "r+1", "r1.", "r.1", "r1.1", "r1.0", "r1.0.0", "rx", "r 1", "r10", "r18446744073709551616",
		"x", "x2", "x2.", "x.2", "x0.1", "x1.0", "x9.1", "x1.9", "x-1.1", "x1.-1", "x+1.1", "x01.1", "x1.01", "x1.1.", "x1.1.0", "x1.1.1", "x.", "x..", "x1..1", "xx.1", "x1.x", "x1 1",
		"p2.3.1  c", " p2.3.1", "p2.3.1 ", "p2.3.1 c b r0 ", "p2.3.1 c q r0", "p2.3.1 c b r", "p2.3 c b r0", "p2.3.1,c,b,r0", "p2.3.1cbr0",
		"t" + strings.Repeat(" t", 20), "t" + strings.Repeat(" t", 19) + " ", strings.Repeat("t ", 100000), strings.Repeat("t", 100000), strings.Repeat(" ", 100000),
		"p" + strings.Repeat("1.", 100000) + "1", "r" + strings.Repeat("0", 100000),
	}
	for _, text := range append(texts, oddTexts()[1:]...) {
		if isDesignText(text) {
			t.Fatalf("%.40q is the text of a program", text)
		}
		if program, ok := impl.ParseDesign(text); ok || len(program) != 0 {
			t.Errorf("ParseDesign(%.40q) = %v, %v", text, program, ok)
		}
	}
	if program, ok := impl.ParseDesign("t" + strings.Repeat(" t", 19)); !ok || len(program) != 20 {
		t.Error("20 Designs", program, ok)
	}
	if program, ok := impl.ParseDesign(""); !ok || len(program) != 0 {
		t.Error("no Design", program, ok)
	}
}

// checkParse checks that ParseDesign takes a text exactly if it is that of a program, and tells whether it is.
func checkParse(t *testing.T, text string) bool {
	t.Helper()
	program, ok := impl.ParseDesign(text)
	if ok != isDesignText(text) || !ok && len(program) != 0 {
		t.Errorf("ParseDesign(%q) = %v, %v", text, program, ok)
		return false
	}
	if back, fine := impl.DesignText(program); ok && (!fine || back != text || !slices.Equal(program, programOf(text))) {
		t.Errorf("ParseDesign(%q) = %v, which is %q", text, program, back)
	}
	return ok
}

// Of all short texts, and of all that differ from that of a program by one byte, ParseDesign takes exactly those of programs.
func TestParseDesignTakesOnlyDesignTexts(t *testing.T) {
	taken := 0
	for _, text := range slices.Concat(textsOver("cprx16. ", 5), textsOver("p08.", 7)) {
		if checkParse(t, text) {
			taken++
		}
	}
	// The empty text twice; c, and this 2 and 3 times; r1, and this twice; c and r1 in both orders; x with 4 pairs of numbers; p8.8.0.
	if want := 2 + 3 + 2 + 2 + 4 + 1; taken != want {
		t.Errorf("%d short texts are programs, not %d", taken, want)
	}
	for _, text := range []string{"", "p2.3.1 c b r0", "x2.8 t u m s", "p1.1.0" + strings.Repeat(" t", 18)} {
		for i := range len(text) + 1 {
			if i < len(text) {
				checkParse(t, text[:i]+text[i+1:])
			}
			for c := range 256 {
				if i < len(text) {
					checkParse(t, text[:i]+string([]byte{byte(c)})+text[i+1:])
				}
				checkParse(t, text[:i]+string([]byte{byte(c)})+text[i:])
			}
		}
	}
}

// runsOf returns the length and the color of each run of the knots of a Chart with a single row.
func runsOf(c impl.Chart) [][2]int {
	var runs [][2]int
	for i, color := range c.Knots {
		if i == 0 || color != c.Knots[i-1] {
			runs = append(runs, [2]int{0, color})
		}
		runs[len(runs)-1][0]++
	}
	return runs
}

func TestPlainProgram(t *testing.T) {
	for row, want := range map[string]string{
		"a":        "p1.1.0",
		"f":        "p1.1.5",
		"aa":       "p2.1.0",
		"ab":       "p1.1.0 p1.1.1 b",
		"aab":      "p2.1.0 p1.1.1 b",
		"abb":      "p1.1.0 p2.1.1 b",
		"aba":      "p1.1.0 p1.1.1 b p1.1.0 b",
		"cccccccc": "p8.1.2",
		"aaabbccc": "p3.1.0 p2.1.1 b p3.1.2 b",
		"abcdefab": "p1.1.0 p1.1.1 b p1.1.2 b p1.1.3 b p1.1.4 b p1.1.5 b p1.1.0 b p1.1.1 b",
		"aaaaaaab": "p7.1.0 p1.1.1 b",
		"baaaaaaa": "p1.1.1 p7.1.0 b",
	} {
		c := chartOf(row)
		program, ok := impl.PlainProgram(c)
		if !ok || !slices.Equal(program, programOf(want)) {
			t.Errorf("PlainProgram(%v) = %v, %v", c, program, ok)
		}
		if text, ok := impl.DesignText(program); !ok || text != want {
			t.Errorf("PlainProgram(%v) is %q, %v", c, text, ok)
		}
	}
}

// rowCharts returns Charts with a single row: all of 2 colors and some of more.
func rowCharts() []impl.Chart {
	charts := slices.Concat(smallCharts(1, 1, 6), smallCharts(2, 1, 6), smallCharts(3, 1, 6), smallCharts(4, 1, 4), smallCharts(5, 1, 3))
	for width := 6; width <= 8; width++ {
		charts = append(charts, smallCharts(width, 1, 2)...)
		for seed := range 20 {
			charts = append(charts, mixedChart(width, 1, seed))
		}
	}
	return charts
}

// A PlainProgram makes the Chart again, with a DesignPlain for each run.
func TestPlainProgramMakesTheChart(t *testing.T) {
	for _, c := range rowCharts() {
		program, ok := impl.PlainProgram(c)
		if !ok || !impl.IsProgram(program) {
			t.Fatalf("PlainProgram(%v) = %v, %v", c, program, ok)
		}
		var want []impl.Design
		for i, run := range runsOf(c) {
			want = append(want, impl.Design{Kind: 1, A: run[0], B: 1, C: run[1]})
			if i > 0 {
				want = append(want, impl.Design{Kind: 4})
			}
		}
		if !slices.Equal(program, want) {
			t.Fatalf("PlainProgram(%v) = %v", c, program)
		}
		if made, ok := impl.RunDesign(program); !ok || !sameChart(made, c) {
			t.Fatalf("PlainProgram(%v) = %v, which makes %v, %v", c, program, made, ok)
		}
	}
}

func TestPlainProgramRefuses(t *testing.T) {
	for _, c := range append(allSizes(1), allSizes(2)...) {
		program, ok := impl.PlainProgram(c)
		if ok != (c.Height == 1) || !ok && len(program) != 0 {
			t.Errorf("PlainProgram(%v) = %v, %v", c, program, ok)
		}
	}
	for _, bad := range invalidCharts() {
		if program, ok := impl.PlainProgram(bad); ok || len(program) != 0 {
			t.Errorf("PlainProgram(%v) = %v, %v", bad, program, ok)
		}
	}
	for width := 1; width <= 8; width++ {
		for at := range width {
			for _, n := range oddNumbers() {
				c := mixedChart(width, 1, 3)
				c.Knots[at] = n
				program, ok := impl.PlainProgram(c)
				if ok != (n >= 0 && n <= 5) || !ok && len(program) != 0 {
					t.Errorf("PlainProgram(%v) = %v, %v", c, program, ok)
				}
			}
		}
	}
	if program, ok := impl.PlainProgram(impl.Chart{Width: 9, Height: 1, Knots: make([]int, 9)}); ok || len(program) != 0 {
		t.Error("9 knots", program, ok)
	}
}

func TestColorsUsed(t *testing.T) {
	for text, want := range map[string][]int{
		"":                                   {},
		"t m b u c s":                        {},
		"x1.2 x5.5":                          {},
		"p1.2.0":                             {0},
		"p1.2.5":                             {5},
		"r0":                                 {0},
		"r5":                                 {5},
		"p2.3.1 c b r0":                      {0, 1},
		"p2.3.1 c b r1":                      {1},
		"r3 r3 p3.3.3":                       {3},
		"r5 p1.1.4 r3 p1.1.2 r1 p1.1.0":      {0, 1, 2, 3, 4, 5},
		"p4.4.5 p4.4.0 p4.4.5 p4.4.0 p4.4.3": {0, 3, 5},
		// Designs that fail, or come after one that does, count, too.
		"t r2":                {2},
		"p1.1.0 b p1.1.1 r4":  {0, 1, 4},
		"p8.8.2 r3":           {2, 3},
		"p1.1.4 c c c p1.1.3": {3, 4},
	} {
		if colors, ok := impl.ColorsUsed(programOf(text)); !ok || !slices.Equal(colors, want) {
			t.Errorf("ColorsUsed of %q is %v, %v", text, colors, ok)
		}
	}
	for _, program := range mixedPrograms() {
		used := map[int]bool{}
		for _, d := range program {
			if d.Kind == impl.DesignPlain {
				used[d.C] = true
			}
			if d.Kind == impl.DesignRing {
				used[d.A] = true
			}
		}
		var want []int
		for color := range 6 {
			if used[color] {
				want = append(want, color)
			}
		}
		if colors, ok := impl.ColorsUsed(program); !ok || !slices.Equal(colors, want) {
			t.Errorf("ColorsUsed(%v) = %v, %v", program, colors, ok)
		}
	}
}

func TestDesignFunctionsRefuseInvalidPrograms(t *testing.T) {
	for _, program := range invalidPrograms() {
		if c, ok := impl.RunDesign(program); ok || !isNoChart(c) {
			t.Errorf("RunDesign(%v) = %v, %v", program, c, ok)
		}
		if n, ok := impl.FailsAt(program); ok || n != 0 {
			t.Errorf("FailsAt(%v) = %d, %v", program, n, ok)
		}
		if sizes, ok := impl.StackSizes(program); ok || len(sizes) != 0 {
			t.Errorf("StackSizes(%v) = %v, %v", program, sizes, ok)
		}
		if text, ok := impl.DesignText(program); ok || text != "" {
			t.Errorf("DesignText(%v) = %q, %v", program, text, ok)
		}
		if colors, ok := impl.ColorsUsed(program); ok || len(colors) != 0 {
			t.Errorf("ColorsUsed(%v) = %v, %v", program, colors, ok)
		}
	}
}

// designAnswers calls each function that takes a program, and returns all that they return as text.
func designAnswers(program []impl.Design) string {
	c, one := impl.RunDesign(program)
	at, two := impl.FailsAt(program)
	sizes, three := impl.StackSizes(program)
	text, four := impl.DesignText(program)
	colors, five := impl.ColorsUsed(program)
	return fmt.Sprint(impl.IsProgram(program), c, one, at, two, sizes, three, text, four, colors, five)
}

// Each function changes no argument, and neither reads nor changes what lies beyond the length of one.
func TestDesignFunctionsChangeNoArgument(t *testing.T) {
	beyond := append(programOf("p1.1.0 r5 b"), impl.Design{Kind: 77, A: 78, B: 79, C: 80})
	for _, program := range append(mixedPrograms(), invalidPrograms()...) {
		given := slices.Clone(program)
		long := append(slices.Clone(program), beyond...)
		short := long[:len(program)]
		if first, second := designAnswers(given), designAnswers(short); first != second {
			t.Errorf("%v does %s, and within a longer list %s", given, first, second)
		}
		if !slices.Equal(short, given) || !slices.Equal(long[len(program):], beyond) {
			t.Errorf("%v has become %v", given, long)
		}
	}
	for _, c := range rowCharts() {
		long := append(slices.Clone(c.Knots), 5, 77)
		program, ok := impl.PlainProgram(impl.Chart{Width: c.Width, Height: 1, Knots: long[:c.Width]})
		if again, fine := impl.PlainProgram(c); !ok || !fine || !slices.Equal(program, again) {
			t.Errorf("PlainProgram(%v) is %v, and within a longer list %v", c, again, program)
		}
		if !slices.Equal(long, append(slices.Clone(c.Knots), 5, 77)) {
			t.Errorf("%v has become %v", c, long)
		}
	}
}

// Whatever is written to one result, over all of its memory, neither another one nor an argument changes.
func TestDesignResultsAreSeparate(t *testing.T) {
	mark := impl.Design{Kind: -1}
	for _, program := range append(mixedPrograms(), programOf("p1.1.0 c b"), programOf("p1.1.0 c s b x1.1")) {
		given := slices.Clone(program)
		var results [][]int
		var programs [][]impl.Design
		text, _ := impl.DesignText(program)
		for range 2 {
			c, _ := impl.RunDesign(program)
			sizes, _ := impl.StackSizes(program)
			colors, _ := impl.ColorsUsed(program)
			results = append(results, c.Knots, sizes, colors)
			parsed, _ := impl.ParseDesign(text)
			programs = append(programs, parsed)
		}
		checkSeparate(t, results, -1)
		checkSeparate(t, programs, mark)
		if again, ok := impl.ParseDesign(text); !ok || !slices.Equal(again, given) || !slices.Equal(program, given) {
			t.Errorf("%v has become %v, or is parsed as %v", given, program, again)
		}
	}
	for _, c := range rowCharts() {
		first, _ := impl.PlainProgram(c)
		second, _ := impl.PlainProgram(c)
		checkSeparate(t, [][]impl.Design{first, second}, mark)
	}
	// What a caller writes to a Chart does not come into the next one.
	program := programOf("p2.2.0")
	c, _ := impl.RunDesign(program)
	c.Knots[0] = 3
	if again, ok := impl.RunDesign(program); !ok || !sameChart(again, chartOf("aa", "aa")) {
		t.Error("a Chart run again is", again, ok)
	}
}

// Each function returns for odd Designs, programs and texts, and the same at each call.
func TestDesignFunctionsAreTotal(t *testing.T) {
	for _, kind := range append(oddNumbers(), 4, 10) {
		for i, a := range oddNumbers() {
			for j, b := range oddNumbers() {
				d := impl.Design{Kind: kind, A: a, B: b, C: oddNumbers()[(i*3+j)%len(oddNumbers())]}
				for _, program := range [][]impl.Design{{d}, append(programOf("p3.2.1"), d), append(programOf("p1.1.0 c c c"), d), slices.Repeat([]impl.Design{d}, 20)} {
					if first, second := designAnswers(program), designAnswers(program); first != second {
						t.Errorf("%v does %s, and then %s", program, first, second)
					}
				}
			}
		}
	}
	for _, text := range oddTexts() {
		program, ok := impl.ParseDesign(text)
		if again, fine := impl.ParseDesign(text); fine != ok || !slices.Equal(again, program) {
			t.Errorf("ParseDesign(%.40q) differs from call to call", text)
		}
	}
}
