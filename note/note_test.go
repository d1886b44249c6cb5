package note_test

import (
	"fmt"
	"math"
	"slices"
	"strings"
	"testing"

	"hortator/api"
	"hortator/note"
	"hortator/rule"
)

const (
	low  = math.MinInt64
	high = math.MaxInt64
)

func section(res int, at, length int64) api.Section {
	return api.Section{Res: res, At: at, Len: length}
}

func machine() api.Config {
	return api.Config{Cores: 3, Syncs: 2, Lag: 2, Move: 1, Res: []int{1, 0, 1}}
}

func sameConfig(a, b api.Config) bool {
	return a.Cores == b.Cores && a.Syncs == b.Syncs && a.Lag == b.Lag && a.Move == b.Move && slices.Equal(a.Res, b.Res)
}

func configText(c api.Config) string {
	var b strings.Builder
	fmt.Fprintf(&b, "cores %d syncs %d lag %d move %d", c.Cores, c.Syncs, c.Lag, c.Move)
	for i, agent := range c.Res {
		if i == 0 {
			b.WriteString(" res")
		}
		fmt.Fprintf(&b, " %d", agent)
	}
	return b.String()
}

func taskText(t api.Task) string {
	var b strings.Builder
	fmt.Fprintf(&b, "%d/%d/%d", t.C, t.D, t.T)
	for _, x := range t.Secs {
		fmt.Fprintf(&b, " %d@%d+%d", x.Res, x.At, x.Len)
	}
	return b.String()
}

// noConfig asks that s is the text of no configuration.
func noConfig(t *testing.T, s string) {
	t.Helper()
	c, err := note.GetConfig(s)
	if err != api.ErrForm || !sameConfig(c, api.Config{}) {
		t.Errorf("P8.1: GetConfig(%.80q) = %v, %v", s, c, err)
	}
}

// noTask asks that s is the text of no task that c takes.
func noTask(t *testing.T, c api.Config, s string) {
	t.Helper()
	y, err := note.GetTask(c, s)
	if err != api.ErrForm || !rule.Same(y, api.Task{}) {
		t.Errorf("P8.1: GetTask(%v, %.80q) = %v, %v", c, s, y, err)
	}
}

// eachRes tells of every list of n agents out of syncs.
func eachRes(syncs, n int, tell func(res []int)) {
	var fill func(res []int)
	fill = func(res []int) {
		if len(res) == n {
			tell(res)
			return
		}
		for agent := range syncs {
			fill(append(slices.Clone(res), agent))
		}
	}
	fill(nil)
}

// eachConfig tells of every one that may be with at most 3 resources, and of some with more.
func eachConfig(tell func(c api.Config)) {
	for cores := 1; cores <= 6; cores++ {
		for syncs := range 4 {
			for lag := range int64(6) {
				for move := range int64(6) {
					for n := range 4 {
						eachRes(syncs, n, func(res []int) {
							tell(api.Config{Cores: cores, Syncs: syncs, Lag: lag, Move: move, Res: res})
						})
					}
				}
			}
		}
	}
	for syncs := 1; syncs <= 3; syncs++ {
		for n := 4; n <= 6; n++ {
			eachRes(syncs, n, func(res []int) { tell(api.Config{Cores: 2, Syncs: syncs, Lag: 5, Res: res}) })
		}
	}
}

func TestConfigThereAndBack(t *testing.T) {
	eachConfig(func(c api.Config) {
		s := note.PutConfig(c)
		if want := configText(c); s != want {
			t.Fatalf("P8.1: PutConfig(%v) = %q, not %q", c, s, want)
		}
		if back, err := note.GetConfig(s); err != api.OK || !sameConfig(back, c) {
			t.Fatalf("P8.1: GetConfig(%q) = %v, %v", s, back, err)
		}
	})
}

func TestConfigAsTheChapterWritesIt(t *testing.T) {
	for _, x := range []struct {
		c    api.Config
		want string
	}{
		{machine(), "cores 3 syncs 2 lag 2 move 1 res 1 0 1"},
		{api.Config{Cores: 1, Res: []int{}}, "cores 1 syncs 0 lag 0 move 0"},
		{api.Config{Cores: 6, Syncs: 3, Lag: 4, Move: 5, Res: []int{2, 1, 0, 0, 1, 2}}, "cores 6 syncs 3 lag 4 move 5 res 2 1 0 0 1 2"},
	} {
		if got := note.PutConfig(x.c); got != x.want {
			t.Errorf("P8.1: PutConfig(%v) = %q", x.c, got)
		}
	}
}

// wrongConfigs may not be.
func wrongConfigs() []api.Config {
	return []api.Config{
		{}, {Cores: -1}, {Cores: 7}, {Cores: low}, {Cores: high},
		{Cores: 1, Syncs: -1}, {Cores: 1, Syncs: 4}, {Cores: 1, Lag: -1}, {Cores: 1, Lag: 6}, {Cores: 1, Move: -1}, {Cores: 1, Move: 6},
		{Cores: 1, Lag: low}, {Cores: 1, Move: high}, {Cores: 1 + 1<<32},
		{Cores: 1, Res: []int{0}}, {Cores: 1, Syncs: 2, Res: []int{2}}, {Cores: 1, Syncs: 2, Res: []int{1, -1}},
		{Cores: 1, Syncs: 1, Res: make([]int, 7)}, {Cores: 1, Syncs: 1, Res: make([]int, 1<<20)},
	}
}

func TestConfigThatMayNotBe(t *testing.T) {
	for _, c := range wrongConfigs() {
		if got := note.PutConfig(c); got != "" {
			t.Errorf("P8.1: PutConfig(%v) = %q", c, got)
		}
		noConfig(t, configText(c))
		noTask(t, c, "1/2/3")
	}
}

func TestConfigOtherTexts(t *testing.T) {
	for _, s := range []string{
		"", " ", "cores", "cores 1", "res 0", "\xff", "\x00",
		"cores 1 syncs 1 lag 0 move 0 res", "cores 1 syncs 1 lag 0 move 0 res ", "cores 1 syncs 1 lag 0 move 0 res  0",
		"cores 1 syncs 1 lag 0 move 0 res 0 ", "cores 1 syncs 1 lag 0 move 0 res 0  0", "cores 1 syncs 1 lag 0 move 0 res 00",
		"cores 1 syncs 1 lag 0 move 0 res 0 res 0", "cores 1 syncs 1 lag 0 move 0 0", "cores 1 syncs 1 lag 0 move 0 res0",
		"cores 1 syncs 1 lag 0 move 0 res 0,0", "cores 1 syncs 1 lag 0 move 0 res -0",
		"cores 1 syncs 1 lag 0 move 0\n", "cores\t1 syncs 1 lag 0 move 0", "cores 1 syncs 1 lag 0 move 0\x00",
		"cores1 syncs 1 lag 0 move 0", "cores 1syncs 1 lag 0 move 0", "cores 1 syncs 1 lag 0 lag 0", "syncs 1 cores 1 lag 0 move 0",
		"cores 1 syncs 1 move 0 lag 0", "cores 1 syncs -0 lag 0 move 0", "cores 1 syncs +1 lag 0 move 0", "cores 1 syncs 1 lag 00 move 0",
		"cores 1 syncs 1 lag 0x1 move 0", "cores 1 syncs 1 lag 1_0 move 0", "cores 1 syncs 1 lag 1e0 move 0", "cores 1 syncs 1 lag  move 0",
		"cores \u0661 syncs 1 lag 0 move 0", "cores 1 syncs 1 lag 0 move 18446744073709551616", "cores 18446744073709551617 syncs 1 lag 0 move 0",
		"cores 4294967297 syncs 1 lag 0 move 0", "cores 1 syncs 1 lag 0 move 9223372036854775808", "cores 1 syncs 1 lag 0 move 9223372036854775807",
		"cores 1 syncs 1 lag 0 move 0cores 1 syncs 1 lag 0 move 0",
	} {
		noConfig(t, s)
	}
}

func TestLongTexts(t *testing.T) {
	const n = 1 << 20
	for _, s := range []string{
		strings.Repeat("9", n), strings.Repeat("0", n), strings.Repeat(" ", n), strings.Repeat("\xff", n),
		strings.Repeat("cores ", n), strings.Repeat("1/", n), strings.Repeat("0@1+1 ", n),
	} {
		noConfig(t, s)
		noConfig(t, "cores "+s)
		noConfig(t, "cores 1 syncs 1 lag 0 move 0"+s)
		noConfig(t, "cores 1 syncs 1 lag 0 move 0 res 0"+s)
		noTask(t, machine(), s)
		noTask(t, machine(), "9/9/9"+s)
		noTask(t, machine(), "9/9/9 0@1+1"+s)
	}
	noConfig(t, "cores 1 syncs 1 lag 0 move 0 res"+strings.Repeat(" 0", n))
	noTask(t, machine(), "9/9/9"+strings.Repeat(" 0@1+1", n))
}

// nearTexts tells of every text that is got out of s by taking one byte away, or by putting one in or instead.
func nearTexts(s string, tell func(s string)) {
	for i := range len(s) + 1 {
		for b := range 256 {
			one := string([]byte{byte(b)})
			tell(s[:i] + one + s[i:])
			if i < len(s) {
				tell(s[:i] + one + s[i+1:])
			}
		}
		if i < len(s) {
			tell(s[:i] + s[i+1:])
			tell(s[:i])
		}
	}
}

// A text that is read has to be the very one that is written of what was read: nothing else may be.
func TestConfigJustOfSuch(t *testing.T) {
	good := 0
	for _, c := range []api.Config{machine(), {Cores: 1}, {Cores: 6, Syncs: 3, Lag: 5, Move: 5, Res: []int{0, 1, 2, 2, 1, 0}}} {
		nearTexts(configText(c), func(s string) {
			got, err := note.GetConfig(s)
			switch {
			case err == api.OK:
				good++
				if !rule.Config(got) || configText(got) != s {
					t.Errorf("P8.1: GetConfig(%q) = %v", s, got)
				}
			case err != api.ErrForm || !sameConfig(got, api.Config{}):
				t.Errorf("P8.1: GetConfig(%q) = %v, %v", s, got, err)
			}
		})
	}
	if good == 0 {
		t.Error("P8.1: none of the texts was read")
	}
}

func TestTaskThereAndBack(t *testing.T) {
	times := []int64{1, 2, 3, 9, 10, 11, 99, 100, 101, 199, 200}
	c := api.Config{Cores: 1, Syncs: 1, Res: make([]int, 6)}
	for _, run := range times {
		for _, within := range times {
			for _, apart := range times {
				for _, secs := range [][]api.Section{nil, {}, {section(0, 1, 1)}, {section(5, run-1, 200)}, {section(3, 1, 10), section(3, run-1, 9)}} {
					y := api.Task{C: run, D: within, T: apart, Secs: secs}
					checkTask(t, c, y)
				}
			}
		}
	}
}

// checkTask holds both ways of y against what the chapter asks; c takes every task that any takes.
func checkTask(t *testing.T, c api.Config, y api.Task) {
	t.Helper()
	s := note.PutTask(y)
	if !rule.Task(c, y) {
		if s != "" {
			t.Errorf("P8.1: PutTask(%v) = %q", y, s)
		}
		noTask(t, c, taskText(y))
		return
	}
	if s != taskText(y) {
		t.Errorf("P8.1: PutTask(%v) = %q", y, s)
	}
	if back, err := note.GetTask(c, s); err != api.OK || !rule.Same(back, y) {
		t.Errorf("P8.1: GetTask(%q) = %v, %v", s, back, err)
	}
}

func TestTaskAsTheChapterWritesIt(t *testing.T) {
	for _, x := range []struct {
		y    api.Task
		want string
	}{
		{api.Task{C: 1, D: 1, T: 1}, "1/1/1"},
		{api.Task{C: 10, D: 20, T: 30}, "10/20/30"},
		{api.Task{C: 10, D: 20, T: 30, Secs: []api.Section{section(4, 3, 7)}}, "10/20/30 4@3+7"},
		{api.Task{C: 10, D: 20, T: 30, Secs: []api.Section{section(5, 3, 7), section(0, 9, 200)}}, "10/20/30 5@3+7 0@9+200"},
	} {
		if got := note.PutTask(x.y); got != x.want {
			t.Errorf("P8.1: PutTask(%v) = %q", x.y, got)
		}
	}
}

func TestTaskThatNoConfigurationTakes(t *testing.T) {
	c := api.Config{Cores: 6, Syncs: 3, Res: make([]int, 6)}
	for _, y := range []api.Task{
		{}, {C: 2, D: 1, T: 3}, {C: 1, D: 3, T: 2}, {C: 1, D: 1, T: 201}, {C: 0, D: 1, T: 1}, {C: -1, D: 1, T: 1}, {C: low, D: high, T: low},
		{C: 9, D: 9, T: 9, Secs: []api.Section{section(6, 3, 1)}}, {C: 9, D: 9, T: 9, Secs: []api.Section{section(-1, 3, 1)}},
		{C: 9, D: 9, T: 9, Secs: []api.Section{section(1<<32, 3, 1)}}, {C: 9, D: 9, T: 9, Secs: []api.Section{section(low, low, low)}},
		{C: 9, D: 9, T: 9, Secs: []api.Section{section(0, 9, 1)}}, {C: 9, D: 9, T: 9, Secs: []api.Section{section(0, 0, 1)}},
		{C: 9, D: 9, T: 9, Secs: []api.Section{section(0, 3, 0)}}, {C: 9, D: 9, T: 9, Secs: []api.Section{section(0, 3, 201)}},
		{C: 9, D: 9, T: 9, Secs: []api.Section{section(0, 3, 1), section(0, 3, 1)}},
		{C: 9, D: 9, T: 9, Secs: []api.Section{section(0, 1, 1), section(0, 2, 1), section(0, 3, 1)}},
		{C: 9, D: 9, T: 9, Secs: make([]api.Section, 1<<20)},
	} {
		if got := note.PutTask(y); got != "" {
			t.Errorf("P8.1: PutTask(%v) = %q", y, got)
		}
		noTask(t, c, taskText(y))
	}
}

// What some configuration takes is written, whether or not the one at hand has so many resources.
func TestTaskOfAConfigurationWithFewerResources(t *testing.T) {
	for has := range 7 {
		c := api.Config{Cores: 1, Syncs: 1, Res: make([]int, has)}
		for res := range 6 {
			y := api.Task{C: 9, D: 9, T: 9, Secs: []api.Section{section(res, 3, 1)}}
			s := note.PutTask(y)
			if s != taskText(y) {
				t.Errorf("P8.1: PutTask(%v) = %q", y, s)
			}
			if res >= has {
				noTask(t, c, s)
				continue
			}
			if got, err := note.GetTask(c, s); err != api.OK || !rule.Same(got, y) {
				t.Errorf("P8.1: GetTask(%q) = %v, %v with %d resources", s, got, err, has)
			}
		}
	}
}

func TestTaskOtherTexts(t *testing.T) {
	for _, s := range []string{
		"", " ", "/", "//", "1", "1/", "1/2", "1/2/", "/1/2", "1/2/3/", "1//3", "1/2/3/4", "1 2 3", "1/2 /3", " 1/2/3", "1/2/3 ", "1/2/3\n", "1/2/3\x00",
		"01/2/3", "1/02/3", "1/2/03", "00/2/3", "+1/2/3", "-0/2/3", "1/2/+3", "0x1/2/3", "1_0/20/30", "1e0/2/3", "1.0/2/3", "\u0661/2/3",
		"1/2/18446744073709551619", "18446744073709551617/2/3", "4294967297/4294967298/4294967299", "1/2/9223372036854775807", "1/2/9223372036854775808",
		"9/9/9 ", "9/9/9 0", "9/9/9 0@", "9/9/9 0@3", "9/9/9 0@3+", "9/9/9 @3+1", "9/9/9 0@+1", "9/9/9 0+3@1", "9/9/9 0@3@1", "9/9/9 0+3+1",
		"9/9/9 0@3+1 ", "9/9/9 0@3+1 0", "9/9/9  0@3+1", "9/9/9 0@3+1  0@4+1", "9/9/9 0@3+10@4+1", "9/9/90@3+1", "9/9/9\t0@3+1",
		"9/9/9 00@3+1", "9/9/9 0@03+1", "9/9/9 0@3+01", "9/9/9 -0@3+1", "9/9/9 0@+3+1", "9/9/9 0@3++1", "9/9/9 0@3+-1", "9/9/9 0 @3+1",
		"9/9/9 18446744073709551616@3+1", "9/9/9 0@18446744073709551619+1", "9/9/9 0@3+18446744073709551617",
		"9/9/9 0@3+1 0@4+1 0@5+1", "9/9/9 0@4+1 0@3+1", "9/9/9 0@3+1 0@3+1", "\xff", "9/9/9 \xff",
	} {
		noTask(t, machine(), s)
	}
}

func TestTaskJustOfSuch(t *testing.T) {
	good := 0
	for _, y := range []api.Task{
		{C: 1, D: 2, T: 3}, {C: 20, D: 200, T: 200, Secs: []api.Section{section(2, 19, 200)}},
		{C: 10, D: 10, T: 10, Secs: []api.Section{section(0, 1, 10), section(1, 9, 1)}},
	} {
		nearTexts(taskText(y), func(s string) {
			got, err := note.GetTask(machine(), s)
			switch {
			case err == api.OK:
				good++
				if !rule.Task(machine(), got) || taskText(got) != s {
					t.Errorf("P8.1: GetTask(%q) = %v", s, got)
				}
			case err != api.ErrForm || !rule.Same(got, api.Task{}):
				t.Errorf("P8.1: GetTask(%q) = %v, %v", s, got, err)
			}
		})
	}
	if good == 0 {
		t.Error("P8.1: none of the texts was read")
	}
}

func TestAnswersAreNewMemoryAndNothingIsChanged(t *testing.T) {
	const config, task = "cores 3 syncs 2 lag 2 move 1 res 1 0 1", "10/20/30 0@1+5 2@9+7"
	res := []int{1, 0, 1, 77, 78}
	secs := []api.Section{section(0, 1, 5), section(2, 9, 7), section(9, 9, 9)}
	c, y := machine(), api.Task{C: 10, D: 20, T: 30, Secs: secs[:2]}
	c.Res = res[:3]
	if note.PutConfig(c) != config || note.PutTask(y) != task {
		t.Errorf("P8.1: %q, %q", note.PutConfig(c), note.PutTask(y))
	}
	firstConfig, _ := note.GetConfig(config)
	secondConfig, _ := note.GetConfig(config)
	firstTask, _ := note.GetTask(c, task)
	secondTask, _ := note.GetTask(c, task)
	for i := range firstConfig.Res[:cap(firstConfig.Res)] {
		firstConfig.Res[:cap(firstConfig.Res)][i] = -1
	}
	for i := range firstTask.Secs[:cap(firstTask.Secs)] {
		firstTask.Secs[:cap(firstTask.Secs)][i] = section(-1, -1, -1)
	}
	if !sameConfig(secondConfig, c) || !rule.Same(secondTask, y) {
		t.Errorf("P0.3: other answers have become %v, %v", secondConfig, secondTask)
	}
	if !slices.Equal(res, []int{1, 0, 1, 77, 78}) || !slices.Equal(secs, []api.Section{section(0, 1, 5), section(2, 9, 7), section(9, 9, 9)}) {
		t.Errorf("P0.3: the arguments have become %v, %v", res, secs)
	}
}
