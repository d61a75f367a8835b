package tests

import (
	"math"
	"math/rand"
	"reflect"
	"regexp"
	"slices"
	"strconv"
	"strings"
	"testing"

	"loop.example/g00343/impl"
)

func TestWorldConstants(t *testing.T) {
	if impl.MaxDone != 60 {
		t.Error(impl.MaxDone)
	}
}

func cloneWorld(w impl.World) impl.World {
	return impl.World{Desk: cloneDesk(w.Desk), Journal: cloneJournal(w.Journal)}
}

// sameWorlds tells whether all is the same: no element and nil are the same.
func sameWorlds(a, b impl.World) bool {
	return reflect.DeepEqual(bareDesk(a.Desk), bareDesk(b.Desk)) && sameJournals(a.Journal, b.Journal)
}

func sameWorldResults(a, b impl.WorldResult) bool {
	return a.Code == b.Code && a.Reply == b.Reply && a.Value == b.Value && sameWorlds(a.World, b.World)
}

// worldCall is what is done to a world: "do" of a line, "sync", or "crash" with so many bytes kept.
type worldCall struct {
	word string
	line string
	kept int64
}

func (x worldCall) ask(w impl.World) impl.WorldResult {
	switch x.word {
	case "do":
		return impl.DoWorld(w, x.line)
	case "sync":
		return impl.SyncWorld(w)
	case "crash":
		return impl.CrashWorld(w, x.kept)
	}
	panic(x.word)
}

func doLine(line string) worldCall      { return worldCall{"do", line, 0} }
func syncAll() worldCall                { return worldCall{"sync", "", 0} }
func crashKeeping(kept int64) worldCall { return worldCall{"crash", "", kept} }

// readWorldCall reads "sync", or "crash" and a number, and all else as a line that is done.
func readWorldCall(t *testing.T, told string) worldCall {
	t.Helper()
	if told == "sync" {
		return syncAll()
	}
	if kept, ok := strings.CutPrefix(told, "crash "); ok {
		return crashKeeping(readNumbers(t, []string{kept})[0])
	}
	return doLine(told)
}

// tellWorld tells the code alone; or the reply, if there is one, what tellDesk tells, and how many lines of the journal are sure, and how many are loose.
func tellWorld(got impl.WorldResult) string {
	if got.Code != 0 {
		if !reflect.DeepEqual(got, impl.WorldResult{Code: got.Code}) {
			return "a code and a world"
		}
		return "code " + strconv.FormatInt(got.Code, 10)
	}
	told := ""
	if got.Reply != 0 {
		told = "reply " + strconv.FormatInt(got.Reply, 10) + ": "
	}
	sure, _ := slowLines(string(got.World.Journal.Sure))
	loose, _ := slowLines(string(got.World.Journal.Loose))
	return told + tellDesk(impl.DeskResult{Value: got.Value, Desk: got.World.Desk}) + " | " + strconv.Itoa(len(sure)) + "+" + strconv.Itoa(len(loose))
}

func slowWorldFault(w impl.World) int64 {
	if fault := slowDeskFault(w.Desk); fault != 0 {
		return fault
	}
	return slowJournalFault(w.Journal)
}

// commandForm is all that a command may be, but for how many numbers it has and how many bytes.
var commandForm = regexp.MustCompile(`^ *(start|mail|tick|drop|claim|free|done)(( +(0|[1-9][0-9]?[0-9]?[0-9]?))+) *$`)

// slowCommand answers what a command does to a desk, and whether the line is one.
func slowCommand(d impl.Desk, line string) (deskCall, bool) {
	found := commandForm.FindStringSubmatch(line)
	if found == nil {
		return deskCall{}, false
	}
	var n []int64
	for _, digits := range strings.Fields(found[2]) {
		number, err := strconv.ParseInt(digits, 10, 64)
		if err != nil {
			panic(err)
		}
		n = append(n, number)
	}
	switch found[1] + strconv.Itoa(len(n)) {
	case "start2":
		return stirCall(1, n[0], n[1]), true
	case "mail2":
		return stirCall(2, n[0], n[1]), true
	case "tick1":
		return stirCall(3, 0, n[0]), true
	case "drop1":
		return stirCall(4, n[0], 0), true
	case "claim3":
		return claimCall(n[0], n[1], n[2]), true
	case "free3":
		return freeCall(n[0], n[1], n[2]), true
	case "done4":
		vars := []int64{n[3], 0, 0, 0}
		if n[1] < int64(len(d.Engine.Insts)) {
			copy(vars[1:], d.Engine.Insts[n[1]].Chart.Vars[1:])
		}
		return finishCall(n[0], n[1], n[2], vars...), true
	}
	return deskCall{}, false
}

func slowDoWorld(w impl.World, line string) impl.WorldResult {
	if fault := slowWorldFault(w); fault != 0 {
		return impl.WorldResult{Code: fault}
	}
	if fault := slowLineFault(line); fault != 0 {
		return impl.WorldResult{Code: fault}
	}
	x, ok := slowCommand(w.Desk, line)
	if !ok {
		return impl.WorldResult{Code: impl.ErrText}
	}
	if len(w.Journal.Sure)+len(w.Journal.Loose)+len(rawPack(line)) > 2400 {
		return impl.WorldResult{Code: impl.ErrMany}
	}
	next := slowDeskCall(w.Desk, x)
	if next.Code != 0 {
		return impl.WorldResult{Reply: next.Code, World: cloneWorld(w)}
	}
	return impl.WorldResult{Value: next.Value, World: impl.World{Desk: next.Desk, Journal: journalOf(string(w.Journal.Sure), string(w.Journal.Loose)+rawPack(line))}}
}

func slowReplay(procs []impl.Proc, lines []string) impl.WorldResult {
	w := impl.World{Desk: impl.Desk{Engine: impl.Engine{Procs: procs}}}
	if fault := slowEngineFault(w.Desk.Engine); fault != 0 {
		return impl.WorldResult{Code: fault}
	}
	if len(lines) >= 61 {
		return impl.WorldResult{Code: impl.ErrMany}
	}
	for _, line := range lines {
		got := slowDoWorld(w, line)
		if got.Code != 0 || got.Reply != 0 {
			return got
		}
		w = got.World
	}
	return impl.WorldResult{World: w}
}

// slowWorldCall tells once more what comes of a call.
func slowWorldCall(w impl.World, x worldCall) impl.WorldResult {
	if x.word == "do" {
		return slowDoWorld(w, x.line)
	}
	if fault := slowWorldFault(w); fault != 0 {
		return impl.WorldResult{Code: fault}
	}
	all := string(w.Journal.Sure) + string(w.Journal.Loose)
	if x.word == "sync" {
		return impl.WorldResult{World: impl.World{Desk: cloneDesk(w.Desk), Journal: journalOf(all, "")}}
	}
	if x.kept < 0 || x.kept > int64(len(w.Journal.Loose)) {
		return impl.WorldResult{Code: impl.ErrRange}
	}
	lines, _ := slowLines(all[:len(w.Journal.Sure)+int(x.kept)])
	got := slowReplay(w.Desk.Engine.Procs, lines)
	got.World.Journal.Sure, got.World.Journal.Loose = got.World.Journal.Loose, nil
	return got
}

// askWorld asks what comes of a call against what is told once more, that the world stays as it was, and that a line that has a reply changes nothing.
func askWorld(t *testing.T, w impl.World, x worldCall) impl.WorldResult {
	t.Helper()
	before := cloneWorld(w)
	got, want := x.ask(w), slowWorldCall(before, x)
	if !sameWorldResults(got, want) || got.Code != 0 && tellWorld(got) != tellWorld(want) {
		t.Fatalf("%v of %s: %s, want %s", x, tellWorld(impl.WorldResult{World: before}), tellWorld(got), tellWorld(want))
	}
	if !reflect.DeepEqual(w, before) && !sameWorlds(w, before) {
		t.Fatalf("%v: the world was changed: %v, before %v", x, w, before)
	}
	if got.Code != 0 {
		return got
	}
	if impl.WorldFault(got.World) != 0 {
		t.Fatalf("%v of %s: %s has the fault %d", x, tellWorld(impl.WorldResult{World: w}), tellWorld(got), impl.WorldFault(got.World))
	}
	if x.word == "do" && got.Reply != 0 && (got.Value != 0 || !sameWorlds(got.World, before) || !impl.SameDesks(got.World.Desk, w.Desk)) {
		t.Fatalf("%v has the reply %d and changes the world", x, got.Reply)
	}
	if x.word != "do" && (got.Value != 0 || len(got.World.Journal.Loose) != 0) {
		t.Fatalf("%v has the value %d, and not all is sure: %s", x, got.Value, tellWorld(got))
	}
	return got
}

// linesIn are the lines of a journal, the sure ones first.
func linesIn(j impl.Journal) []string {
	sure, _ := slowLines(string(j.Sure))
	loose, _ := slowLines(string(j.Loose))
	return slices.Concat(sure, loose)
}

// askReplayed asks promise 15: a world is what comes of its journal.
func askReplayed(t *testing.T, w impl.World) {
	t.Helper()
	procs, lines := w.Desk.Engine.Procs, linesIn(w.Journal)
	got := impl.ReplayWorld(procs, lines)
	want := impl.WorldResult{World: impl.World{Desk: w.Desk, Journal: journalOf("", packs(lines...))}}
	if !sameWorldResults(got, want) || !impl.SameDesks(got.World.Desk, w.Desk) {
		t.Fatalf("%q: %s, want %s", lines, tellWorld(got), tellWorld(want))
	}
}

func newWorld(t *testing.T, texts ...string) impl.World {
	t.Helper()
	got := impl.NewWorld(readProcs(t, texts...))
	if got.Code != 0 {
		t.Fatal(got)
	}
	return got.World
}

// doneWorld does lines to a world, with "sync" and "crash" among them; none of them has a code or a reply.
func doneWorld(t *testing.T, w impl.World, calls ...string) impl.World {
	t.Helper()
	for _, told := range calls {
		got := readWorldCall(t, told).ask(w)
		if got.Code != 0 || got.Reply != 0 {
			t.Fatalf("%s: %s", told, tellWorld(got))
		}
		w = got.World
	}
	return w
}

// worldCase is processes as they are written, and what is done to a world of them: each line has behind "=>" what tellWorld tells then. With a code the world stays as it was.
type worldCase struct {
	why   string
	texts []string
	lines []string
}

func askWorldCases(t *testing.T, cases []worldCase) {
	t.Helper()
	for _, c := range cases {
		w := newWorld(t, c.texts...)
		for _, line := range c.lines {
			told, want, _ := strings.Cut(line, " => ")
			got := askWorld(t, w, readWorldCall(t, told))
			if tellWorld(got) != want {
				t.Errorf("%s: %s: %s, want %s", c.why, told, tellWorld(got), want)
			}
			if got.Code == 0 {
				w = got.World
			}
			askReplayed(t, w)
		}
	}
}

func TestWorlds(t *testing.T) {
	askWorldCases(t, []worldCase{
		{"a world of nothing", []string{taskBehindTask}, []string{
			"sync => 0 at 0: | - | - | 0+0",
			"crash 0 => 0 at 0: | - | - | 0+0",
			"crash 1 => code 3",
			"crash -1 => code 3",
			"drop 0 => reply 3: 0 at 0: | - | - | 0+0",
			"mail 0 1 => reply 3: 0 at 0: | - | - | 0+0",
			"claim 1 0 1 => reply 3: 0 at 0: | - | - | 0+0",
			"free 1 0 1 => reply 3: 0 at 0: | - | - | 0+0",
			"done 1 0 1 5 => reply 3: 0 at 0: | - | - | 0+0",
			"start 1 5 => reply 3: 0 at 0: | - | - | 0+0",
			"tick 1001 => reply 3: 0 at 0: | - | - | 0+0",
			"tick 0 => 0 at 0: | - | - | 0+1",
			"tick 1000 => 0 at 1000: | - | - | 0+2",
		}},
		{"each command", []string{tasksBesideAll, taskBehindTask}, []string{
			"start 0 4 => 0 at 0: live | - | 0.1 0.2 | 0+1",
			"start 1 7 => 1 at 0: live live | - | 0.1 0.2 1.1 | 0+2",
			"claim 2 0 1 => 0 at 0: live live | 0.1:2 | 0.2 1.1 | 0+3",
			"claim 3 0 1 => reply 6: 0 at 0: live live | 0.1:2 | 0.2 1.1 | 0+3",
			"claim 3 0 0 => reply 4: 0 at 0: live live | 0.1:2 | 0.2 1.1 | 0+3",
			"claim 0 0 2 => reply 3: 0 at 0: live live | 0.1:2 | 0.2 1.1 | 0+3",
			"claim 10 0 2 => reply 3: 0 at 0: live live | 0.1:2 | 0.2 1.1 | 0+3",
			"claim 9 0 2 => 0 at 0: live live | 0.1:2 0.2:9 | 1.1 | 0+4",
			"free 2 0 2 => reply 10: 0 at 0: live live | 0.1:2 0.2:9 | 1.1 | 0+4",
			"free 9 0 2 => 0 at 0: live live | 0.1:2 | 0.2 1.1 | 0+5",
			"free 9 0 2 => reply 10: 0 at 0: live live | 0.1:2 | 0.2 1.1 | 0+5",
			"done 3 0 1 9 => reply 10: 0 at 0: live live | 0.1:2 | 0.2 1.1 | 0+5",
			"done 2 0 1 9 => 1 at 0: live live | - | 0.2 1.1 | 0+6",
			"done 2 0 1 9 => reply 4: 0 at 0: live live | - | 0.2 1.1 | 0+6",
			"mail 0 2 => reply 4: 0 at 0: live live | - | 0.2 1.1 | 0+6",
			"mail 0 1 => 1 at 0: live live | - | 0.2 1.1 | 0+7",
			"mail 0 1 => reply 4: 0 at 0: live live | - | 0.2 1.1 | 0+7",
			"tick 5 => 2 at 5: live live | - | 0.2 1.1 | 0+8",
			"drop 1 => 3 at 5: live failed | - | 0.2 | 0+9",
			"drop 1 => reply 9: 0 at 5: live failed | - | 0.2 | 0+9",
			"claim 1 0 2 => 0 at 5: live failed | 0.2:1 | - | 0+10",
			"done 1 0 2 3 => 2 at 5: ended failed | - | - | 0+11",
			"wink => code 5",
			"drop 0 => reply 9: 0 at 5: ended failed | - | - | 0+11",
			"sync => 0 at 5: ended failed | - | - | 11+0",
			"tick 7 => 0 at 12: ended failed | - | - | 11+1",
		}},
		{"what is synced stays, and what is not is gone", []string{taskBehindTask}, []string{
			"start 0 5 => 0 at 0: live | - | 0.1 | 0+1",
			"sync => 0 at 0: live | - | 0.1 | 1+0",
			"sync => 0 at 0: live | - | 0.1 | 1+0",
			"claim 2 0 1 => 0 at 0: live | 0.1:2 | - | 1+1",
			"crash 14 => 0 at 0: live | 0.1:2 | - | 2+0",
			"free 2 0 1 => 0 at 0: live | - | 0.1 | 2+1",
			"crash 12 => 0 at 0: live | 0.1:2 | - | 2+0",
			"done 2 0 1 8 => 1 at 0: live | - | 0.2 | 2+1",
			"tick 3 => 1 at 3: live | - | 0.2 | 2+2",
			"crash 25 => code 3",
			"crash 23 => 0 at 0: live | - | 0.2 | 3+0",
			"crash 0 => 0 at 0: live | - | 0.2 | 3+0",
			"tick 3 => 1 at 3: live | - | 0.2 | 3+1",
			"tick 4 => 1 at 7: live | - | 0.2 | 3+2",
			"crash 9 => 0 at 3: live | - | 0.2 | 4+0",
			"claim 1 0 2 => 0 at 3: live | 0.2:1 | - | 4+1",
			"done 1 0 2 1 => 2 at 3: ended | - | - | 4+2",
			"crash 0 => 0 at 3: live | - | 0.2 | 4+0",
			"claim 3 0 2 => 0 at 3: live | 0.2:3 | - | 4+1",
		}},
		{"all is gone", []string{taskBehindTask}, []string{
			"start 0 5 => 0 at 0: live | - | 0.1 | 0+1",
			"claim 2 0 1 => 0 at 0: live | 0.1:2 | - | 0+2",
			"tick 9 => 1 at 9: live | 0.1:2 | - | 0+3",
			"crash 11 => 0 at 0: | - | - | 0+0",
			"start 0 5 => 0 at 0: live | - | 0.1 | 0+1",
		}},
		{"claims that are gone are gone behind a crash too", []string{tasksInTime}, []string{
			"start 0 0 => 0 at 0: live | - | 0.2 0.3 | 0+1",
			"claim 5 0 2 => 0 at 0: live | 0.2:5 | 0.3 | 0+2",
			"claim 4 0 3 => 0 at 0: live | 0.2:5 0.3:4 | - | 0+3",
			"tick 3 => 1 at 3: live | - | 0.4 | 0+4",
			"crash 50 => code 3",
			"sync => 0 at 3: live | - | 0.4 | 4+0",
			"claim 5 0 2 => reply 4: 0 at 3: live | - | 0.4 | 4+0",
			"crash 0 => 0 at 3: live | - | 0.4 | 4+0",
		}},
		{"what fails", []string{failsBehindTask}, []string{
			"start 0 0 => 0 at 0: live | - | 0.1 0.3 | 0+1",
			"start 0 1 => 1 at 0: live live | - | 0.1 0.3 1.1 1.3 | 0+2",
			"claim 1 0 3 => 0 at 0: live live | 0.3:1 | 0.1 1.1 1.3 | 0+3",
			"claim 1 1 3 => 0 at 0: live live | 0.3:1 1.3:1 | 0.1 1.1 | 0+4",
			"done 1 0 3 0 => 3 at 0: failed live | 1.3:1 | 1.1 | 0+5",
			"done 1 1 3 0 => 1 at 0: failed live | - | 1.1 | 0+6",
		}},
	})
}

// The document's example: nobody claims what was claimed ahead of a crash, but was not synced.
func TestWorldExample(t *testing.T) {
	w := doneWorld(t, newWorld(t, taskBehindTask), "start 0 4", "sync", "claim 2 0 1", "crash 0")
	if len(w.Desk.Claims) != 0 || len(w.Desk.Engine.Insts) != 1 || len(impl.OfferedAt(w.Desk).Claims) != 1 {
		t.Error(w)
	}
}

// done turns the first variable of its instance alone.
func TestDoneTurnsTheFirstVariable(t *testing.T) {
	text := `<seq><set var="1" to="11"/><set var="2" to="22"/><set var="3" to="33"/><task name="a"/><task name="b"/><set var="3" to="(v0+v3)"/><task name="c"/></seq>`
	w := doneWorld(t, newWorld(t, text, text), "start 0 5", "start 1 6", "claim 1 1 4")
	for _, c := range []struct {
		line string
		want []int64
	}{
		{"done 1 1 4 9999", []int64{9999, 11, 22, 33}},
		{"done 1 1 4 0", []int64{0, 11, 22, 33}},
		{"done 1 1 4 6", []int64{6, 11, 22, 33}},
		{"done 1 1 4 11", []int64{11, 11, 22, 33}},
	} {
		got := askWorld(t, w, doLine(c.line))
		if got.Code != 0 || got.Reply != 0 || !slices.Equal(got.World.Desk.Engine.Insts[1].Chart.Vars, c.want) || !slices.Equal(got.World.Desk.Engine.Insts[0].Chart.Vars, []int64{5, 11, 22, 33}) {
			t.Errorf("%s: %v, want %v", c.line, got, c.want)
		}
		more := doneWorld(t, got.World, "claim 2 1 5", "done 2 1 5 7")
		if vars := more.Desk.Engine.Insts[1].Chart.Vars; !slices.Equal(vars, []int64{7, 11, 22, 40}) {
			t.Errorf("%s, and one more: %v", c.line, vars)
		}
	}
	// All that starts has its value as all its variables.
	plain := doneWorld(t, newWorld(t, taskBehindTask), "start 0 8", "claim 1 0 1", "done 1 0 1 3")
	if vars := plain.Desk.Engine.Insts[0].Chart.Vars; !slices.Equal(vars, []int64{3, 8, 8, 8}) {
		t.Error(vars)
	}
}

// A done asks as FinishTask does: that there is the user and the instance first.
func TestDoneAsksAsFinishTaskDoes(t *testing.T) {
	w := doneWorld(t, newWorld(t, tasksBesideAll), "start 0 4", "start 0 5", "drop 1", "claim 2 0 1")
	for line, want := range map[string]int64{
		"done 2 2 1 1":          impl.ErrRange,
		"done 2 9999 1 1":       impl.ErrRange,
		"done 0 0 1 1":          impl.ErrRange,
		"done 10 0 1 1":         impl.ErrRange,
		"done 9999 9999 9999 1": impl.ErrRange,
		"done 0 2 1 1":          impl.ErrRange,
		"done 2 2 9999 1":       impl.ErrRange,
		"done 10 0 9999 1":      impl.ErrRange,
		"done 2 1 1 1":          impl.ErrNone,
		"done 2 0 0 1":          impl.ErrNone,
		"done 2 0 3 1":          impl.ErrNone,
		"done 2 0 9999 1":       impl.ErrNone,
		"done 2 0 2 1":          impl.ErrUser,
		"done 3 0 1 1":          impl.ErrUser,
		"done 3 0 1 9999":       impl.ErrUser,
	} {
		if got := askWorld(t, w, doLine(line)); got.Code != 0 || got.Reply != want {
			t.Errorf("%s: %s, want the reply %d", line, tellWorld(got), want)
		}
	}
}

// commandWorld is a world to which each of the commands can be done.
func commandWorld(t *testing.T) impl.World {
	return doneWorld(t, newWorld(t, tasksBesideAll), "start 0 4", "tick 1", "sync", "start 0 5", "claim 1 0 1")
}

// goodLines are one of each command, all of which go in commandWorld.
var goodLines = []string{"start 0 7", "mail 1 1", "tick 3", "drop 1", "claim 2 1 2", "free 1 0 1", "done 1 0 1 6"}

// blanksAround answers a line with each of some numbers of blanks at each of its places.
func blanksAround(line string) []string {
	words := strings.Split(line, " ")
	var lines []string
	for _, n := range []int{2, 3, 17} {
		wide := strings.Repeat(" ", n)
		lines = append(lines, wide+line, line+wide, strings.Join(words, wide), " "+strings.Join(words, "  ")+" ")
		for at := 1; at < len(words); at++ {
			lines = append(lines, strings.Join(words[:at], " ")+wide+strings.Join(words[at:], " "))
		}
	}
	return lines
}

// A command with more blanks does the same, and stands in the journal as it is.
func TestCommandsWithMoreBlanks(t *testing.T) {
	w := commandWorld(t)
	for _, plain := range goodLines {
		want := askWorld(t, w, doLine(plain))
		if want.Code != 0 || want.Reply != 0 {
			t.Fatalf("%s: %s", plain, tellWorld(want))
		}
		n := 0
		for _, line := range append(blanksAround(plain), plain+strings.Repeat(" ", 40-len(plain)), strings.Repeat(" ", 40-len(plain))+plain) {
			got := askWorld(t, w, doLine(line))
			if len(line) > 40 {
				if got.Code != impl.ErrMany {
					t.Errorf("%q: %s", line, tellWorld(got))
				}
				continue
			}
			n++
			if got.Code != 0 || got.Reply != 0 || got.Value != want.Value || !impl.SameDesks(got.World.Desk, want.World.Desk) {
				t.Errorf("%q: %s, want %s", line, tellWorld(got), tellWorld(want))
			}
			if string(got.World.Journal.Loose) != string(w.Journal.Loose)+rawPack(line) {
				t.Errorf("%q: the journal is %q", line, got.World.Journal.Loose)
			}
			askReplayed(t, got.World)
		}
		if n < 10 {
			t.Errorf("%q: %d lines", plain, n)
		}
		for _, line := range []string{plain + strings.Repeat(" ", 41-len(plain)), strings.Repeat(" ", 41-len(plain)) + plain} {
			if got := askWorld(t, w, doLine(line)); tellWorld(got) != "code 2" {
				t.Errorf("%q: %s", line, tellWorld(got))
			}
		}
	}
}

func TestLinesThatAreNoCommands(t *testing.T) {
	w := commandWorld(t)
	for _, c := range []struct {
		why, line string
		want      int64
	}{
		{"nothing", "", impl.ErrMany},
		{"41 bytes", strings.Repeat("a", 41), impl.ErrMany},
		{"41 blanks", strings.Repeat(" ", 41), impl.ErrMany},
		{"41 wrong bytes", strings.Repeat("\n", 41), impl.ErrMany},
		{"a blank", " ", impl.ErrText},
		{"40 blanks", strings.Repeat(" ", 40), impl.ErrText},
		{"40 bytes", strings.Repeat("a", 40), impl.ErrText},
		{"another word", "wink", impl.ErrText},
		{"another word with numbers", "wink 0 1", impl.ErrText},
		{"a number alone", "3", impl.ErrText},
		{"numbers alone", "0 1 2", impl.ErrText},
		{"a number ahead of the word", "3 tick", impl.ErrText},
		{"the word behind its numbers", "0 4 start", impl.ErrText},
		{"the word among its numbers", "0 start 4", impl.ErrText},
		{"the word of a script to sync", "sync", impl.ErrText},
		{"the word of a script to crash", "crash", impl.ErrText},
		{"the word of a script to crash, and a number", "crash 0", impl.ErrText},
		{"the word of a script to show", "show", impl.ErrText},
		{"another name for a done", "finish 1 0 1 6", impl.ErrText},
		{"a word of the desk", "stir 3 0 3", impl.ErrText},
		{"great letters", "TICK 3", impl.ErrText},
		{"a great letter", "Tick 3", impl.ErrText},
		{"a letter less", "tic 3", impl.ErrText},
		{"a letter more", "ticks 3", impl.ErrText},
		{"the word and its number in one", "tick3", impl.ErrText},
		{"a word cut by a blank", "ti ck 3", impl.ErrText},
		{"a tab between", "tick\t3", impl.ErrText},
		{"a tab and a blank between", "tick\t 3", impl.ErrText},
		{"a line feed behind", "tick 3\n", impl.ErrText},
		{"a return behind", "tick 3\r", impl.ErrText},
		{"a zero behind", "tick 3\x00", impl.ErrText},
		{"a blank of two bytes between", "tick\u00a03", impl.ErrText},
		{"another sign between", "tick,3", impl.ErrText},
		{"another sign behind", "tick 3.", impl.ErrText},
		{"another sign ahead", "-tick 3", impl.ErrText},
		{"a remark behind", "tick 3 # three", impl.ErrText},
		{"two commands", "tick 3 tick 3", impl.ErrText},
		{"two commands with a sign between", "tick 3;tick 3", impl.ErrText},
		{"40 bytes of a word", "tick" + strings.Repeat("k", 34) + " 3", impl.ErrText},
	} {
		if got := askWorld(t, w, doLine(c.line)); !reflect.DeepEqual(got, impl.WorldResult{Code: c.want}) {
			t.Errorf("%s: %q: %s, want the code %d", c.why, c.line, tellWorld(got), c.want)
		}
	}
}

// Each command with a word less, and with one more, at each place.
func TestCommandsWithOtherWords(t *testing.T) {
	w := commandWorld(t)
	for _, plain := range goodLines {
		words := strings.Split(plain, " ")
		var wrong []string
		for at := range words {
			wrong = append(wrong, strings.Join(slices.Concat(words[:at], words[at+1:]), " "))
			for _, more := range append([]string{"0", "1", "x"}, words...) {
				wrong = append(wrong, strings.Join(slices.Insert(slices.Clone(words), at, more), " "))
			}
		}
		wrong = append(wrong, plain+" 0", plain+" 1", plain+" x", plain+" 0 0", words[0], "  "+words[0]+"  ")
		for _, line := range wrong {
			if got := askWorld(t, w, doLine(line)); !reflect.DeepEqual(got, impl.WorldResult{Code: impl.ErrText}) {
				t.Errorf("%q: %s", line, tellWorld(got))
			}
		}
	}
	// The numbers of one command behind the word of another one.
	counts := map[string]int{"start": 2, "mail": 2, "tick": 1, "drop": 1, "claim": 3, "free": 3, "done": 4}
	for word, count := range counts {
		for n := range 7 {
			line := word + strings.Repeat(" 1", n)
			if got := askWorld(t, w, doLine(line)); (got.Code == 0) != (n == count) {
				t.Errorf("%q: %s", line, tellWorld(got))
			}
		}
	}
}

// Each number of each command, as each of some pieces.
func TestNumbersOfCommands(t *testing.T) {
	w := commandWorld(t)
	for _, plain := range goodLines {
		words := strings.Split(plain, " ")
		for at := 1; at < len(words); at++ {
			ask := func(piece string, is bool) {
				line := strings.Join(slices.Concat(words[:at], []string{piece}, words[at+1:]), " ")
				if got := askWorld(t, w, doLine(line)); (got.Code == 0) != is || !is && got.Code != impl.ErrText {
					t.Errorf("%q: %s", line, tellWorld(got))
				}
			}
			for _, piece := range []string{"0", "1", "9", "10", "99", "100", "999", "1000", "1001", "9999", "1010"} {
				ask(piece, true)
			}
			for _, piece := range []string{"00", "01", "000", "0000", "0001", "09", "00000", "10000", "99999", "12345", "100000", "4294967296", "18446744073709551616",
				"-1", "-0", "+1", "+0", "-", "+", "1-", "1.0", "1.", ".1", "1e1", "0x1", "1_0", "1,0", "x", "1x", "x1", "one", "v0", "(1)", "\"1\"", "1/1", ":", "/"} {
				ask(piece, false)
			}
		}
	}
}

// The first number of a tick is as great as 4 digits can tell, and one that is longer is none.
func TestNumbersAreDecimal(t *testing.T) {
	w := newWorld(t, taskBehindTask)
	for number := range int64(10010) {
		digits := strconv.FormatInt(number, 10)
		got := impl.DoWorld(w, "tick "+digits)
		want := impl.WorldResult{Value: 0, World: impl.World{Desk: impl.Desk{Engine: impl.Engine{Procs: w.Desk.Engine.Procs, Now: number}}, Journal: journalOf("", rawPack("tick "+digits))}}
		if number > 1000 {
			want = impl.WorldResult{Reply: impl.ErrRange, World: w}
		}
		if number > 9999 {
			want = impl.WorldResult{Code: impl.ErrText}
		}
		if !sameWorldResults(got, want) {
			t.Fatalf("%d: %s, want %s", number, tellWorld(got), tellWorld(want))
		}
		if wrong := impl.DoWorld(w, "tick 0"+digits); wrong.Code != impl.ErrText {
			t.Fatalf("0%d: %s", number, tellWorld(wrong))
		}
	}
	for _, c := range []struct{ line, vars string }{{"start 0 9999", "9999"}, {"start 0 1234", "1234"}, {"start 0 8070", "8070"}} {
		got := doneWorld(t, w, c.line)
		for _, v := range got.Desk.Engine.Insts[0].Chart.Vars {
			if strconv.FormatInt(v, 10) != c.vars {
				t.Errorf("%s: %d", c.line, v)
			}
		}
	}
}

// Each byte at each place of some commands, instead of what is there and ahead of it.
func TestCommandsOneByteAway(t *testing.T) {
	w := commandWorld(t)
	count := map[string]int{}
	for _, plain := range []string{"tick 3", "start 0 7", "done 1 0 1 6"} {
		for at := range len(plain) + 1 {
			for b := range 256 {
				lines := []string{plain[:at] + string([]byte{byte(b)}) + plain[at:]}
				if at < len(plain) {
					lines = append(lines, plain[:at]+string([]byte{byte(b)})+plain[at+1:])
				}
				for _, line := range lines {
					got := askWorld(t, w, doLine(line))
					count["code "+strconv.FormatInt(got.Code, 10)]++
					if got.Reply != 0 {
						count["reply"]++
					}
				}
			}
		}
	}
	askCounts(t, count, 50, "code 0", "code 5", "reply")
}

// All lines of a few words, of some words that matter.
func TestCommandsOfFewWords(t *testing.T) {
	w := doneWorld(t, newWorld(t, taskBehindTask), "start 0 4", "claim 1 0 1")
	count := map[string]int{}
	var grow func(line string, left int)
	grow = func(line string, left int) {
		got := askWorld(t, w, doLine(line))
		switch {
		case got.Code == 0 && got.Reply == 0:
			count[strings.Fields(line)[0]]++
		case got.Code == 0:
			count[strings.Fields(line)[0]+" reply"]++
		default:
			count["code "+strconv.FormatInt(got.Code, 10)]++
		}
		if left == 0 {
			return
		}
		for _, word := range []string{"0", "1", "9", "00", "9999", "10000"}[:min(6, 2+left)] {
			grow(line+" "+word, left-1)
		}
	}
	for _, word := range []string{"start", "mail", "tick", "drop", "claim", "free", "done", "Tick", "dones", "0"} {
		grow(word, 5)
	}
	askCounts(t, count, 1, "start", "tick", "drop", "free", "done", "start reply", "mail reply", "tick reply", "drop reply", "claim reply", "free reply", "done reply")
	askCounts(t, count, 1000, "code 5")
}

// commandTold tells a call of a desk as a command, where there is one: of a finish the first variable alone.
func commandTold(x deskCall) string {
	first := int64(0)
	if len(x.vars) > 0 {
		first = x.vars[0]
	}
	words, numbers := map[string]string{"claim": "claim", "free": "free", "finish": "done"}, []int64{x.a, x.b, x.c}
	word := words[x.word]
	switch {
	case x.word == "finish":
		numbers = append(numbers, first)
	case x.word == "stir" && x.a == 3:
		word, numbers = "tick", []int64{x.c}
	case x.word == "stir" && x.a == 4:
		word, numbers = "drop", []int64{x.b}
	case x.word == "stir":
		word, numbers = map[int64]string{1: "start", 2: "mail"}[x.a], []int64{x.b, x.c}
	}
	for _, number := range numbers {
		word += " " + strconv.FormatInt(number, 10)
	}
	return word
}

// pickLine is a line, most often a command that goes, some with more blanks.
func pickLine(rnd *rand.Rand, d impl.Desk) string {
	line := commandTold(pickDeskCall(rnd, d))
	switch rnd.Intn(25) {
	case 0:
		line = spoilLine(rnd, line)
	case 1:
		line = []string{someLine(rnd), "tick 1001", "tick 9999", "start 3 0", "start 9999 9999"}[rnd.Intn(5)]
	case 2, 3, 4:
		for range 1 + rnd.Intn(4) {
			words := strings.SplitAfter(line, " ")
			at := rnd.Intn(len(words) + 1)
			line = strings.Join(words[:at], "") + strings.Repeat(" ", 1+rnd.Intn(3)*min(at, 1)) + strings.Join(words[at:], "")
		}
	}
	return line
}

// spoilLine makes a byte or a word of a line another one, or none.
func spoilLine(rnd *rand.Rand, line string) string {
	words := strings.Split(line, " ")
	at := rnd.Intn(len(words))
	switch rnd.Intn(7) {
	case 0:
		words = slices.Delete(words, at, at+1)
	case 1:
		words = slices.Insert(words, at, words[rnd.Intn(len(words))])
	case 2:
		words[at] = "0" + words[at]
	case 3:
		words[at] = strconv.FormatInt(wildNumber(rnd), 10)
	case 4:
		words[0] = []string{"start", "mail", "tick", "drop", "claim", "free", "done", "crash", "sync"}[rnd.Intn(9)]
	case 5:
		words[at] += string([]byte{byte(rnd.Intn(256))})
	case 6:
		words[at] += strings.Repeat(" ", 40)
	}
	return strings.Join(words, " ")
}

// pickWorldCall is mostly a line that goes.
func pickWorldCall(rnd *rand.Rand, w impl.World) worldCall {
	switch rnd.Intn(30) {
	case 0, 1:
		return syncAll()
	case 2:
		return crashKeeping(int64(rnd.Intn(len(w.Journal.Loose) + 1)))
	case 3:
		return crashKeeping([]int64{-1, 0, int64(len(w.Journal.Loose)), int64(len(w.Journal.Loose)) + 1, wildNumber(rnd)}[rnd.Intn(5)])
	}
	return doLine(pickLine(rnd, w.Desk))
}

// worldStory is all worlds that were, each but the first one behind a line, and how many of them were synced.
type worldStory struct {
	were   []impl.World
	synced int
}

// follow tells the story on by a call that has no code, and asks promise 15 of what came of it.
func (s worldStory) follow(t *testing.T, x worldCall, got impl.WorldResult, count map[string]int) worldStory {
	t.Helper()
	last := s.were[len(s.were)-1]
	switch {
	case got.Reply != 0:
		if x.word != "do" || !sameWorlds(got.World, last) {
			t.Fatalf("%v has the reply %d, and another world", x, got.Reply)
		}
		return s
	case x.word == "do":
		return worldStory{append(s.were, got.World), s.synced}
	case x.word == "sync":
		if !impl.SameDesks(got.World.Desk, last.Desk) || len(got.World.Journal.Loose) != 0 {
			t.Fatal("another world is synced")
		}
		s.synced = len(s.were) - 1
	default:
		s = s.crash(t, x.kept, got, count)
	}
	s.were = append(slices.Clone(s.were[:len(s.were)-1]), got.World)
	return s
}

// crash asks that behind a crash there is a world that was, none ahead of the last one that was synced: that of the lines that are whole.
func (s worldStory) crash(t *testing.T, kept int64, got impl.WorldResult, count map[string]int) worldStory {
	t.Helper()
	lines := linesIn(s.were[len(s.were)-1].Journal)
	at := s.synced
	for at < len(lines) && int64(len(packs(lines[s.synced:at+1]...))) <= kept {
		at++
	}
	if !impl.SameDesks(got.World.Desk, s.were[at].Desk) || !sameJournals(got.World.Journal, journalOf(packs(lines[:at]...), "")) || got.Value != 0 {
		t.Fatalf("%d bytes kept of %q behind %d that are sure: %s, want %s", kept, lines, s.synced, tellWorld(got), tellWorld(impl.WorldResult{World: s.were[at]}))
	}
	switch {
	case at == len(lines):
		count["all is there"]++
	case at > s.synced:
		count["some is there"]++
	default:
		count["what was synced is there"]++
	}
	return worldStory{s.were[:at+1], at}
}

func countWorld(x worldCall, got impl.WorldResult, count map[string]int) {
	word := x.word
	if fields := strings.Fields(x.line); word == "do" && got.Code == 0 {
		word = fields[0]
		if len(x.line) > len(strings.Join(fields, " ")) {
			count["more blanks"]++
		}
	}
	switch {
	case got.Code != 0:
		count[word+" code "+strconv.FormatInt(got.Code, 10)]++
	case got.Reply != 0:
		count[word+" reply "+strconv.FormatInt(got.Reply, 10)]++
	default:
		count[word]++
	}
}

// Promise 15, of many worlds that came of a new one by at most 50 lines.
func TestWhateverIsDoneToAWorld(t *testing.T) {
	rnd := rand.New(rand.NewSource(140))
	count := map[string]int{}
	for range 50 {
		first := impl.NewWorld(deskProcs(t, rnd))
		story := worldStory{[]impl.World{first.World}, 0}
		for n := 0; n < 75 && len(story.were) <= 50; n++ {
			w := story.were[len(story.were)-1]
			x := pickWorldCall(rnd, w)
			got := askWorld(t, w, x)
			countWorld(x, got, count)
			if got.Code == 0 {
				story = story.follow(t, x, got, count)
			}
			if n%15 == 0 || n > 73 {
				askReplayed(t, story.were[len(story.were)-1])
			}
			if n%25 == 24 {
				askEachCrash(t, rnd, story, count)
			}
		}
	}
	askCounts(t, count, 50, "start", "mail", "tick", "claim", "free", "done", "sync", "crash", "all is there", "some is there", "what was synced is there", "more blanks", "do code 5", "claim reply 6", "done reply 10")
	askCounts(t, count, 5, "drop", "do code 2", "crash code 3", "start reply 2", "start reply 3", "mail reply 3", "mail reply 4", "tick reply 3", "drop reply 3", "drop reply 9", "claim reply 3", "claim reply 4", "free reply 10", "free reply 4", "done reply 4", "done reply 3")
}

// askEachCrash asks a crash with some numbers of bytes kept, those at the ends of lines among them, and that it goes on from there.
func askEachCrash(t *testing.T, rnd *rand.Rand, s worldStory, count map[string]int) {
	t.Helper()
	w := s.were[len(s.were)-1]
	kept := []int64{0, int64(len(w.Journal.Loose)), int64(rnd.Intn(len(w.Journal.Loose) + 1))}
	loose, _ := slowLines(string(w.Journal.Loose))
	if len(loose) > 0 {
		end := int64(len(packs(loose[:1+rnd.Intn(len(loose))]...)))
		kept = append(kept, end, end-1)
	}
	for _, n := range kept {
		got := impl.CrashWorld(w, n)
		if got.Code != 0 || got.Reply != 0 {
			t.Fatalf("%d bytes kept of %d: %s", n, len(w.Journal.Loose), tellWorld(got))
		}
		s.follow(t, crashKeeping(n), got, count)
		for range 3 {
			x := doLine(pickLine(rnd, got.World.Desk))
			next := askWorld(t, got.World, x)
			if next.Code == 0 && next.Reply == 0 {
				askReplayed(t, next.World)
			}
		}
	}
}

// Worlds that are synced, to which more is done, and that crash with each number of loose bytes kept.
func TestCrashesOfWorldsAtEachByte(t *testing.T) {
	count := map[string]int{}
	for _, c := range []struct {
		texts []string
		ahead []string
		then  []string
	}{
		{[]string{taskBehindTask}, nil, nil},
		{[]string{taskBehindTask}, nil, []string{"tick 1"}},
		{[]string{taskBehindTask}, nil, []string{"start 0 1", "claim 1 0 1", "done 1 0 1 5", "claim 1 0 2", "done 1 0 2 6"}},
		{[]string{taskBehindTask}, []string{"start 0 1"}, []string{"claim 1 0 1", "free 1 0 1", " claim  2 0 1 ", "tick 5"}},
		{[]string{tasksInTime, failsBehindMail}, []string{"start 1 0", "start 0 0", "claim 5 0 1"}, []string{"claim 6 1 2", "tick 2", "claim 6 1 3", "tick 1", "mail 0 1", "claim 1 1 4"}},
		{[]string{manyAreGone}, []string{"start 0 1", "claim 1 0 2", "claim 1 0 3", "claim 1 0 5"}, []string{"start 0 0", "claim 2 1 5", "drop 0", "done 2 1 5 3"}},
		{[]string{taskBehindTask}, []string{"start 0 1", "start 0 2", "start 0 3", "start 0 4", "start 0 5", "start 0 6"}, []string{"drop 0", "drop 5", "claim 9 3 1", "tick 0", "tick 0"}},
	} {
		start := doneWorld(t, newWorld(t, c.texts...), c.ahead...)
		story := worldStory{[]impl.World{newWorld(t, c.texts...)}, 0}
		for _, line := range c.ahead {
			story = story.follow(t, doLine(line), impl.DoWorld(story.were[len(story.were)-1], line), count)
		}
		story = story.follow(t, syncAll(), impl.SyncWorld(start), count)
		for _, line := range c.then {
			story = story.follow(t, doLine(line), impl.DoWorld(story.were[len(story.were)-1], line), count)
		}
		w := story.were[len(story.were)-1]
		for kept := range int64(len(w.Journal.Loose)) + 1 {
			got := askWorld(t, w, crashKeeping(kept))
			after := story.follow(t, crashKeeping(kept), got, count)
			for _, line := range []string{"tick 3", "start 0 9", "claim 7 0 1", "drop 0"} {
				next := askWorld(t, got.World, doLine(line))
				if next.Code != 0 {
					t.Fatalf("%s: %s", line, tellWorld(next))
				}
				after.follow(t, doLine(line), next, count)
				askReplayed(t, next.World)
			}
		}
		n := int64(len(w.Journal.Loose))
		for _, kept := range []int64{-1, -2, -n - 1, n + 1, n + 2, int64(len(w.Journal.Sure)) + n + 1, 2400, 2401, 1<<32 + n, 1 << 32, 1<<63 - 1, -1 << 63, -1<<63 + n, -1 << 32} {
			if got := askWorld(t, w, crashKeeping(kept)); tellWorld(got) != "code 3" {
				t.Errorf("%d kept of %d: %s", kept, n, tellWorld(got))
			}
		}
	}
	askCounts(t, count, 7, "all is there", "some is there", "what was synced is there")
}

// someWorldCalls are calls that have a code, a reply, or none of them.
func someWorldCalls(w impl.World) []worldCall {
	calls := []worldCall{syncAll()}
	n := int64(len(w.Journal.Loose))
	for _, kept := range []int64{0, 1, n, n - 1, n + 1, -1, math.MinInt64, math.MaxInt64} {
		calls = append(calls, crashKeeping(kept))
	}
	for _, line := range append([]string{"", " ", "\n", strings.Repeat("a", 41), strings.Repeat("\n", 41), "wink", "tick 01", "tick", "tick 1 1", "drop 9", "claim 0 0 0", "tick 1001", "done 1 9 1 1", "start 9 0"}, goodLines...) {
		calls = append(calls, doLine(line))
	}
	return calls
}

// askFaultyWorld asks each function of a world: they ask the WorldFault first, whatever else they are given.
func askFaultyWorld(t *testing.T, why string, w impl.World, want int64) {
	t.Helper()
	before := cloneWorld(w)
	if got := impl.WorldFault(w); got != want || slowWorldFault(w) != want {
		t.Errorf("%s: WorldFault = %d, the slow way %d, want %d", why, got, slowWorldFault(w), want)
	}
	if !sameWorlds(w, before) {
		t.Errorf("%s: WorldFault changes the world", why)
	}
	for _, x := range someWorldCalls(w) {
		got := askWorld(t, w, x)
		if want != 0 && !reflect.DeepEqual(got, impl.WorldResult{Code: want}) {
			t.Errorf("%s: %v: %s, want the code %d", why, x, tellWorld(got), want)
		}
	}
}

func TestWorldFaults(t *testing.T) {
	ones := strings.Repeat(packs("a"), 600)
	desks := []struct {
		why  string
		want int64
		make func(d *impl.Desk)
	}{
		{"no process", impl.ErrMany, func(d *impl.Desk) { d.Engine.Procs = nil }},
		{"no desk", impl.ErrMany, func(d *impl.Desk) { *d = impl.Desk{} }},
		{"a wrong process", impl.ErrForm, func(d *impl.Desk) { d.Engine.Procs[0].Steps[0].Kind = 9 }},
		{"a task without a name", impl.ErrText, func(d *impl.Desk) { d.Engine.Procs[0].Steps[1].Name = "" }},
		{"another time", impl.ErrState, func(d *impl.Desk) { d.Engine.Now++ }},
		{"a time that is none", impl.ErrRange, func(d *impl.Desk) { d.Engine.Now = -1 }},
		{"an instance of nothing", impl.ErrRange, func(d *impl.Desk) { d.Engine.Insts[1].Proc = 1 }},
		{"61 claims", impl.ErrMany, func(d *impl.Desk) { d.Claims = make([]impl.Claim, 61) }},
		{"a user that is none", impl.ErrRange, func(d *impl.Desk) { d.Claims[0].User = 0 }},
		{"a task that is not open", impl.ErrNone, func(d *impl.Desk) { d.Claims[0].Step = 3 }},
		{"a claim twice", impl.ErrForm, func(d *impl.Desk) { d.Claims = append(d.Claims, d.Claims[0]) }},
	}
	journals := []struct {
		why  string
		want int64
		make func(j *impl.Journal)
	}{
		{"2404 bytes", impl.ErrMany, func(j *impl.Journal) { *j = journalOf(ones, ones[:4]) }},
		{"2400 bytes each", impl.ErrMany, func(j *impl.Journal) { *j = journalOf(ones, ones) }},
		{"many bytes that are no lines", impl.ErrMany, func(j *impl.Journal) { *j = journalOf("", strings.Repeat("\x00", 2401)) }},
		{"a byte behind the sure ones", impl.ErrText, func(j *impl.Journal) { j.Sure = append(j.Sure, 0) }},
		{"a byte behind the loose ones", impl.ErrText, func(j *impl.Journal) { j.Loose = append(j.Loose, 0) }},
		{"a line that begins in Sure and ends in Loose", impl.ErrText, func(j *impl.Journal) { *j = journalOf(string(j.Sure)+packs("tick 3")[:4], packs("tick 3")[4:]) }},
		{"a wrong sum", impl.ErrText, func(j *impl.Journal) { j.Sure[len(j.Sure)-1]++ }},
	}
	base := commandWorld(t)
	askFaultyWorld(t, "no fault", base, 0)
	for _, d := range desks {
		w := cloneWorld(base)
		d.make(&w.Desk)
		askFaultyWorld(t, d.why, w, d.want)
		w.Journal = impl.Journal{}
		askFaultyWorld(t, d.why+", and no journal", w, d.want)
		for _, j := range journals {
			both := cloneWorld(base)
			d.make(&both.Desk)
			j.make(&both.Journal)
			askFaultyWorld(t, d.why+" and "+j.why, both, d.want)
		}
	}
	for _, j := range journals {
		w := cloneWorld(base)
		j.make(&w.Journal)
		askFaultyWorld(t, j.why, w, j.want)
	}
	askFaultyWorld(t, "nothing", impl.World{}, impl.ErrMany)
	// A journal may tell of something else than what the desk has.
	other := cloneWorld(base)
	other.Journal = journalOf(packs("wink", "a"), packs("drop 5"))
	askFaultyWorld(t, "another journal", other, 0)
	other.Journal = journalOf("", ones)
	askFaultyWorld(t, "a journal that is full", other, 0)
}

// Several faults at once: those of the desk are asked ahead of those of the journal, and both ahead of the line.
func TestWorldFaultsOfSeveral(t *testing.T) {
	with := func(code int64, change func(w *impl.World)) spoilt[impl.World] {
		return spoilt[impl.World]{code, func(w *impl.World) {
			*w = cloneWorld(*w)
			change(w)
		}}
	}
	for _, faults := range [][]spoilt[impl.World]{
		{
			with(impl.ErrState, func(w *impl.World) { w.Desk.Engine.Now++ }),
			with(impl.ErrRange, func(w *impl.World) { w.Desk.Claims[0].User = 10 }),
			with(impl.ErrMany, func(w *impl.World) { w.Journal.Sure = make([]byte, 2401) }),
			with(impl.ErrText, func(w *impl.World) { w.Journal.Loose = append(w.Journal.Loose, 1) }),
		},
		{
			with(impl.ErrForm, func(w *impl.World) { w.Desk.Engine.Procs[0].Steps[0].Kind = 0 }),
			with(impl.ErrNone, func(w *impl.World) { w.Desk.Claims[0].Step = 0 }),
			with(impl.ErrText, func(w *impl.World) { w.Journal.Sure = append(w.Journal.Sure, 1) }),
		},
	} {
		askSeveral(commandWorld(t), faults, func(w impl.World, want int64) { askFaultyWorld(t, "several faults", w, want) })
	}
}

// The codes of a line are asked one behind the other: its own, that it is no command, that there is no room; and the reply comes last.
func TestCodesAheadOfReplies(t *testing.T) {
	ones := strings.Repeat(packs("a"), 600)
	for _, room := range []bool{true, false} {
		w := commandWorld(t)
		w.Journal = journalOf(ones[:1200], ones[1200:2340])
		if !room {
			w.Journal.Loose = []byte(ones[1200:])
		}
		for _, c := range []struct {
			why, line             string
			code, reply, fullCode int64
		}{
			{"nothing", "", impl.ErrMany, 0, impl.ErrMany},
			{"too long", "tick 1" + strings.Repeat(" ", 35), impl.ErrMany, 0, impl.ErrMany},
			{"too long, and a wrong byte", "\n" + strings.Repeat("a", 40), impl.ErrMany, 0, impl.ErrMany},
			{"a wrong byte", "tick 1\n", impl.ErrText, 0, impl.ErrText},
			{"no command", "wink", impl.ErrText, 0, impl.ErrText},
			{"no command, of one byte", "a", impl.ErrText, 0, impl.ErrText},
			{"a command with a reply", "drop 9", 0, impl.ErrRange, impl.ErrMany},
			{"a command with a reply", "claim 3 0 1", 0, impl.ErrTaken, impl.ErrMany},
			{"a command with a reply", "done 1 9 1 1", 0, impl.ErrRange, impl.ErrMany},
			{"a command with a reply", "mail 0 9", 0, impl.ErrNone, impl.ErrMany},
			{"a command with a reply", "free 2 0 1", 0, impl.ErrUser, impl.ErrMany},
			{"a command", "tick 1", 0, 0, impl.ErrMany},
			{"a command", "done 1 0 1 5", 0, 0, impl.ErrMany},
		} {
			want := impl.WorldResult{Code: c.code, Reply: c.reply}
			if !room {
				want = impl.WorldResult{Code: c.fullCode}
			}
			got := askWorld(t, w, doLine(c.line))
			if got.Code != want.Code || got.Reply != want.Reply {
				t.Errorf("%s: %q, with room: %v: %s, want %d and %d", c.why, c.line, room, tellWorld(got), want.Code, want.Reply)
			}
		}
		// What is full is synced all the same.
		if got := askWorld(t, w, syncAll()); got.Code != 0 || len(got.World.Journal.Sure) != len(w.Journal.Sure)+len(w.Journal.Loose) {
			t.Errorf("SyncWorld of a full journal: %s", tellWorld(got))
		}
	}
}

// What has a reply changes nothing: the world stands there as it was, and nothing stands behind its journal.
func TestRepliesChangeNothing(t *testing.T) {
	w := commandWorld(t)
	for line, want := range map[string]int64{
		"start 1 0":    impl.ErrRange,
		"mail 2 1":     impl.ErrRange,
		"mail 0 0":     impl.ErrNone,
		"mail 0 9999":  impl.ErrRange,
		"tick 1001":    impl.ErrRange,
		"drop 2":       impl.ErrRange,
		"claim 0 0 2":  impl.ErrRange,
		"claim 1 0 3":  impl.ErrNone,
		"claim 2 0 1":  impl.ErrTaken,
		"free 1 2 1":   impl.ErrRange,
		"free 1 0 3":   impl.ErrNone,
		"free 2 0 1":   impl.ErrUser,
		"done 1 2 1 0": impl.ErrRange,
		"done 1 0 3 0": impl.ErrNone,
		"done 2 0 1 0": impl.ErrUser,
	} {
		got := askWorld(t, w, doLine(line))
		if got.Code != 0 || got.Reply != want || got.Value != 0 {
			t.Errorf("%s: %s, want the reply %d", line, tellWorld(got), want)
		}
		if !sameWorlds(got.World, w) || len(got.World.Journal.Loose) != len(packs("start 0 5", "claim 1 0 1")) || len(got.World.Journal.Sure) != len(packs("start 0 4", "tick 1")) {
			t.Errorf("%s: %s", line, tellWorld(got))
		}
	}
}

// A journal in which a line has just room, and such with a byte less and more.
func TestDoWorldWithRoom(t *testing.T) {
	base := commandWorld(t)
	for _, plain := range goodLines {
		for _, line := range []string{plain, plain + " ", plain + strings.Repeat(" ", 40-len(plain))} {
			for _, more := range []int{-2, -1, 0, 1, 2} {
				filler := fillerOf(2400 - len(line) - 3 + more)
				lines, _ := slowLines(filler)
				middle := len(packs(lines[:20]...))
				for _, at := range []int{0, middle, len(filler)} {
					w := impl.World{Desk: base.Desk, Journal: journalOf(filler[:at], filler[at:])}
					got := askWorld(t, w, doLine(line))
					if more > 0 && tellWorld(got) != "code 2" || more <= 0 && (got.Code != 0 || got.Reply != 0 || string(got.World.Journal.Loose) != filler[at:]+rawPack(line)) {
						t.Errorf("%q behind %d bytes: %s", line, len(filler), tellWorld(got))
					}
				}
			}
		}
	}
}

func TestNewWorld(t *testing.T) {
	var cases []struct {
		why   string
		procs []impl.Proc
		want  int64
	}
	tell := func(why string, procs []impl.Proc, want int64) {
		cases = append(cases, struct {
			why   string
			procs []impl.Proc
			want  int64
		}{why, procs, want})
	}
	tell("no process", nil, impl.ErrMany)
	tell("a list of no process", []impl.Proc{}, impl.ErrMany)
	tell("one process", procsOf(orderProc()), 0)
	tell("three processes", procsOf(orderProc(), nestOf(7), seqOf(24)), 0)
	tell("four processes", procsOf(seqOf(2), seqOf(2), seqOf(2), seqOf(2)), impl.ErrMany)
	for _, wrong := range wrongProcs() {
		tell(wrong.why, procsOf(wrong.p), wrong.want)
		tell(wrong.why+", last of three", procsOf(orderProc(), seqOf(2), wrong.p), wrong.want)
		tell(wrong.why+", of four", procsOf(seqOf(2), seqOf(2), seqOf(2), wrong.p), impl.ErrMany)
	}
	for _, c := range cases {
		want := impl.WorldResult{Code: c.want}
		if c.want == 0 {
			want.World.Desk.Engine.Procs = c.procs
		}
		if got := impl.NewWorld(c.procs); !sameWorldResults(got, want) || c.want != 0 && !reflect.DeepEqual(got, want) {
			t.Errorf("NewWorld of %s = %v, want %v", c.why, got, want)
		}
		// ReplayWorld asks the same first.
		for _, lines := range [][]string{nil, {}, {"wink"}, {""}, {"drop 0"}, slices.Repeat([]string{"tick 0"}, 61)} {
			got := impl.ReplayWorld(c.procs, lines)
			if c.want != 0 && !reflect.DeepEqual(got, want) || c.want == 0 && !sameWorldResults(got, slowReplay(c.procs, lines)) {
				t.Errorf("ReplayWorld of %s and %q = %v", c.why, lines, got)
			}
		}
	}
}

func TestReplayWorld(t *testing.T) {
	procs := readProcs(t, tasksBesideAll, taskBehindTask)
	ticks := slices.Repeat([]string{"tick 1"}, 100)
	long := "tick 1" + strings.Repeat(" ", 34)
	longs := slices.Repeat([]string{long}, 61)
	for _, c := range []struct {
		why   string
		lines []string
		want  string
	}{
		{"no lines", nil, "0 at 0: | - | - | 0+0"},
		{"a list of no lines", []string{}, "0 at 0: | - | - | 0+0"},
		{"one line", []string{"start 1 4"}, "0 at 0: live | - | 0.1 | 0+1"},
		// The Value is that of a line alone.
		{"a last line that has a value", []string{"start 1 4", "start 1 4", "tick 1"}, "0 at 1: live live | - | 0.1 1.1 | 0+3"},
		{"each command", []string{"start 0 4", "start 1 4", "claim 2 0 1", "claim 2 1 1", "free 2 1 1", "done 2 0 1 7", "mail 0 1", "tick 5", "drop 1"}, "0 at 5: live failed | - | 0.2 | 0+9"},
		{"more blanks", []string{"  start  1   4 ", " claim 2 0  1"}, "0 at 0: live | 0.1:2 | - | 0+2"},
		{"59 lines", ticks[:59], "0 at 59: | - | - | 0+59"},
		{"60 lines", ticks[:60], "0 at 60: | - | - | 0+60"},
		{"61 lines", ticks[:61], "code 2"},
		{"100 lines", ticks, "code 2"},
		{"61 lines with faults", slices.Repeat([]string{""}, 61), "code 2"},
		{"61 lines with wrong bytes", slices.Repeat([]string{"\n"}, 61), "code 2"},
		{"61 lines that are no commands", slices.Repeat([]string{"wink"}, 61), "code 2"},
		{"61 lines, the first with a reply", append([]string{"drop 0"}, ticks[:60]...), "code 2"},
		{"60 lines, the last no command", append(slices.Clone(ticks[:59]), "wink"), "code 5"},
		{"60 lines, the first no command", append([]string{"wink"}, ticks[:59]...), "code 5"},
		{"many lines", slices.Repeat([]string{"tick 0"}, 100000), "code 2"},
		{"55 lines of 40 bytes", longs[:55], "0 at 55: | - | - | 0+55"},
		{"56 lines of 40 bytes", longs[:56], "code 2"},
		{"60 lines of 40 bytes", longs[:60], "code 2"},
		{"55 lines of 40 bytes, and one with just room", append(slices.Clone(longs[:55]), "tick 1"+strings.Repeat(" ", 26)), "0 at 56: | - | - | 0+56"},
		{"55 lines of 40 bytes, and one with a byte less", append(slices.Clone(longs[:55]), "tick 1"+strings.Repeat(" ", 27)), "code 2"},
		{"a line of nothing", []string{"start 1 4", "", "tick 1"}, "code 2"},
		{"a line of 41 bytes", []string{"start 1 4", long + " ", "tick 1"}, "code 2"},
		{"a line with a wrong byte", []string{"start 1 4", "tick\t1", "tick 1"}, "code 5"},
		{"a line that is no command", []string{"start 1 4", "wink", "tick 1"}, "code 5"},
		{"a sync", []string{"start 1 4", "sync"}, "code 5"},
		{"the first line has a reply", []string{"drop 0", "start 1 4"}, "reply 3: 0 at 0: | - | - | 0+0"},
		{"a line in between has a reply", []string{"start 1 4", "claim 1 0 1", "claim 2 0 1", "tick 1"}, "reply 6: 0 at 0: live | 0.1:1 | - | 0+2"},
		{"the last line has a reply", []string{"start 1 4", "claim 1 0 1", "free 2 0 1"}, "reply 10: 0 at 0: live | 0.1:1 | - | 0+2"},
		{"a line of nothing behind a reply", []string{"start 1 4", "drop 1", ""}, "reply 3: 0 at 0: live | - | 0.1 | 0+1"},
		{"no command behind a reply", []string{"start 1 4", "drop 1", "wink"}, "reply 3: 0 at 0: live | - | 0.1 | 0+1"},
		{"no command ahead of a reply", []string{"start 1 4", "wink", "drop 1"}, "code 5"},
		{"two replies", []string{"start 1 4", "free 2 0 1", "drop 1"}, "reply 10: 0 at 0: live | - | 0.1 | 0+1"},
	} {
		given := slices.Clone(c.lines)
		got := impl.ReplayWorld(procs, given)
		if tellWorld(got) != c.want || !sameWorldResults(got, slowReplay(procs, c.lines)) {
			t.Errorf("%s: %s, want %s", c.why, tellWorld(got), c.want)
		}
		if !slices.Equal(given, c.lines) {
			t.Errorf("%s: the lines are %q now", c.why, given)
		}
	}
}

// crashDesks are desks of the process of commandWorld: with and without instances and claims.
func crashDesks(t *testing.T) map[string]impl.Desk {
	t.Helper()
	fresh := newWorld(t, tasksBesideAll)
	return map[string]impl.Desk{
		"no instance":                  fresh.Desk,
		"an instance":                  doneWorld(t, fresh, "start 0 4").Desk,
		"an instance that failed":      doneWorld(t, fresh, "start 0 4", "drop 0").Desk,
		"an instance and its claims":   doneWorld(t, fresh, "start 0 4", "claim 2 0 1", "claim 3 0 2").Desk,
		"some instances, and a claim":  commandWorld(t).Desk,
		"no instance, at another time": doneWorld(t, fresh, "tick 7").Desk,
		"a claim of what goes on":      doneWorld(t, fresh, "start 0 4", "tick 5", "claim 9 0 2", "mail 0 1").Desk,
		"all places taken":             doneWorld(t, fresh, slices.Repeat([]string{"start 0 0"}, impl.MaxInsts)...).Desk,
	}
}

// A journal of which the lines have a reply, or are no commands, or are too many, crashes to that code or reply, whatever the desk was: behind a reply stands, all sure, what the lines ahead of it make.
func TestCrashesOfOtherJournals(t *testing.T) {
	desks := crashDesks(t)
	ticks := strings.Repeat(packs("tick 1"), 61)
	for _, c := range []struct {
		why, sure, loose string
		kept             int
		want             string
	}{
		{"no lines", "", "", 0, "0 at 0: | - | - | 0+0"},
		{"a sure line that is no command", packs("wink"), "", 0, "code 5"},
		{"a loose line that is no command, kept", packs("start 0 4"), packs("wink"), 7, "code 5"},
		{"a loose line that is no command, cut", packs("start 0 4"), packs("wink"), 6, "0 at 0: live | - | 0.1 0.2 | 1+0"},
		{"a sure line with a reply", packs("drop 0"), "", 0, "reply 3: 0 at 0: | - | - | 0+0"},
		{"a sure line with a reply, and loose ones that are not kept", packs("drop 0"), packs("start 0 4", "tick 1"), 0, "reply 3: 0 at 0: | - | - | 0+0"},
		{"a sure line with a reply, and loose ones that are kept", packs("drop 0"), packs("start 0 4", "tick 1"), 21, "reply 3: 0 at 0: | - | - | 0+0"},
		{"a sure line with a reply behind one", packs("start 0 4", "drop 5"), "", 0, "reply 3: 0 at 0: live | - | 0.1 0.2 | 1+0"},
		{"a sure line with a reply among others", packs("start 0 4", "drop 5", "tick 1"), "", 0, "reply 3: 0 at 0: live | - | 0.1 0.2 | 1+0"},
		{"a sure line with a reply behind many", packs("start 0 4", "tick 3", "claim 2 0 1", "start 0 1", "mail 0 1", "done 2 0 1 5", "claim 3 1 1", "free 3 0 2", "tick 1"), packs("tick 2"), 9, "reply 10: 0 at 3: live live | 1.1:3 | 0.2 1.2 | 7+0"},
		{"a sure line with a reply, all others ended", packs("start 0 4", "tick 2", "drop 0", "drop 0"), "", 0, "reply 9: 0 at 2: failed | - | - | 3+0"},
		{"the one loose line, kept, has a reply", "", packs("drop 0"), 9, "reply 3: 0 at 0: | - | - | 0+0"},
		{"the first loose line, kept, has a reply", "", packs("drop 0", "start 0 4"), 21, "reply 3: 0 at 0: | - | - | 0+0"},
		{"a loose line, kept, has a reply behind a loose one", "", packs("start 0 4", "drop 5", "tick 1"), 30, "reply 3: 0 at 0: live | - | 0.1 0.2 | 1+0"},
		{"a loose line, kept, has a reply behind a sure one", packs("start 0 4"), packs("drop 5", "tick 1"), 9, "reply 3: 0 at 0: live | - | 0.1 0.2 | 1+0"},
		{"a loose line, kept, has a reply, the next one is cut", packs("start 0 4"), packs("drop 5", "tick 1"), 17, "reply 3: 0 at 0: live | - | 0.1 0.2 | 1+0"},
		{"all loose lines, kept, one has a reply", packs("start 0 4"), packs("drop 5", "tick 1"), 18, "reply 3: 0 at 0: live | - | 0.1 0.2 | 1+0"},
		{"a loose line with a reply, not kept", packs("start 0 4"), packs("drop 5", "tick 1"), 0, "0 at 0: live | - | 0.1 0.2 | 1+0"},
		{"a loose line with a reply, kept", packs("start 0 4"), packs("tick 1", "drop 1"), 18, "reply 3: 0 at 1: live | - | 0.1 0.2 | 2+0"},
		{"a loose line with a reply, cut", packs("start 0 4"), packs("tick 1", "drop 1"), 17, "0 at 1: live | - | 0.1 0.2 | 2+0"},
		{"a reply ahead of no command", packs("drop 1", "wink"), "", 0, "reply 3: 0 at 0: | - | - | 0+0"},
		{"a reply ahead of a loose line that is no command", packs("tick 4", "drop 1"), packs("wink"), 7, "reply 3: 0 at 4: | - | - | 1+0"},
		{"no command ahead of a reply", packs("wink", "drop 1"), "", 0, "code 5"},
		{"a claim twice", packs("start 0 1", "claim 1 0 1", "claim 1 0 1"), packs("tick 1"), 9, "reply 6: 0 at 0: live | 0.1:1 | 0.2 | 2+0"},
		{"60 sure lines", ticks[:540], "", 0, "0 at 60: | - | - | 60+0"},
		{"61 sure lines", ticks, "", 0, "code 2"},
		{"60 lines, some loose", ticks[:90], ticks[:450], 450, "0 at 60: | - | - | 60+0"},
		{"61 lines, some loose", ticks[:90], ticks[:459], 459, "code 2"},
		{"61 lines, the last one cut", ticks[:90], ticks[:459], 458, "0 at 60: | - | - | 60+0"},
		{"61 lines, none of the loose ones kept", ticks[:90], ticks[:459], 0, "0 at 10: | - | - | 10+0"},
		{"61 lines that are no commands", packs(slices.Repeat([]string{"a"}, 61)...), "", 0, "code 2"},
		{"600 lines", packs(slices.Repeat([]string{"a"}, 600)...), "", 0, "code 2"},
		{"60 lines, the first with a reply", packs("drop 0") + ticks[:531], "", 0, "reply 3: 0 at 0: | - | - | 0+0"},
		{"60 lines, the last with a reply", ticks[:531] + packs("drop 0"), "", 0, "reply 3: 0 at 59: | - | - | 59+0"},
		{"61 lines, the first with a reply", packs("drop 0") + ticks[:540], "", 0, "code 2"},
		{"more blanks", packs(" start 0  4"), packs("claim 3 0 1   "), 17, "0 at 0: live | 0.1:3 | 0.2 | 2+0"},
		{"one byte too many", packs("start 0 4"), packs("tick 1"), 10, "code 3"},
		{"one byte too many, of no commands", packs("wink"), packs("a"), 5, "code 3"},
		{"one byte too few, of no commands", packs("wink"), packs("a"), -1, "code 3"},
	} {
		for at, d := range desks {
			w := impl.World{Desk: d, Journal: journalOf(c.sure, c.loose)}
			got := askWorld(t, w, crashKeeping(int64(c.kept)))
			if tellWorld(got) != c.want {
				t.Errorf("%s, %s: %s, want %s", c.why, at, tellWorld(got), c.want)
			}
			if got.Reply != 0 {
				askBehindReply(t, w, int64(c.kept), got)
			}
		}
	}
}

// askBehindReply asks that a crash with a reply answers the world of the lines ahead of the one that has it, and that it goes on from there like each other one.
func askBehindReply(t *testing.T, w impl.World, kept int64, got impl.WorldResult) {
	t.Helper()
	ahead := impl.NewWorld(w.Desk.Engine.Procs).World
	lines, _ := slowLines(string(w.Journal.Sure) + string(w.Journal.Loose[:kept]))
	var reply int64
	for _, line := range lines {
		next := impl.DoWorld(ahead, line)
		if next.Reply != 0 {
			reply = next.Reply
			break
		}
		ahead = next.World
	}
	if got.Reply != reply || !sameWorlds(got.World, impl.SyncWorld(ahead).World) {
		t.Fatalf("%d kept of %q: %s, want the reply %d and %s", kept, linesIn(w.Journal), tellWorld(got), reply, tellWorld(impl.WorldResult{World: ahead}))
	}
	askReplayed(t, got.World)
	again := askWorld(t, got.World, crashKeeping(0))
	if again.Code != 0 || again.Reply != 0 || !sameWorlds(again.World, got.World) {
		t.Fatalf("%q: a second crash tells %s", linesIn(got.World.Journal), tellWorld(again))
	}
	if next := askWorld(t, got.World, doLine("tick 3")); next.Code == 0 && next.Reply == 0 {
		askReplayed(t, next.World)
	}
}

// Journals of lines of which some have a reply, cut wherever it may be, at desks that came of other lines.
func TestCrashesToReplies(t *testing.T) {
	rnd := rand.New(rand.NewSource(143))
	count := map[string]int{}
	for range 400 {
		procs := deskProcs(t, rnd)
		made, lines := impl.NewWorld(procs).World, []string{}
		for range rnd.Intn(10) {
			line := pickLine(rnd, made.Desk)
			got := impl.DoWorld(made, line)
			if got.Code == 0 {
				lines = append(lines, line)
			}
			if got.Code == 0 && got.Reply == 0 {
				made = got.World
			}
		}
		sure := rnd.Intn(len(lines) + 1)
		w := impl.World{Desk: made.Desk, Journal: journalOf(packs(lines[:sure]...), packs(lines[sure:]...))}
		if rnd.Intn(3) == 0 {
			w.Desk = impl.NewWorld(procs).World.Desk
		}
		kept := int64(rnd.Intn(len(w.Journal.Loose) + 1))
		got := askWorld(t, w, crashKeeping(kept))
		if got.Reply == 0 {
			count["none"]++
			continue
		}
		askBehindReply(t, w, kept, got)
		for word, is := range map[string]bool{
			"at the first line":   len(got.World.Journal.Sure) == 0,
			"behind others":       len(got.World.Journal.Sure) > 0,
			"in Sure":             len(got.World.Journal.Sure) < len(w.Journal.Sure),
			"in Loose":            len(got.World.Journal.Sure) >= len(w.Journal.Sure),
			"with claims":         len(w.Desk.Claims) > 0,
			"with instances":      len(w.Desk.Engine.Insts) > 0,
			"without instances":   len(w.Desk.Engine.Insts) == 0,
			"to claims":           len(got.World.Desk.Claims) > 0,
			"to fewer instances":  len(got.World.Desk.Engine.Insts) < len(w.Desk.Engine.Insts),
			"not all bytes kept":  kept < int64(len(w.Journal.Loose)),
			"a reply of a user":   got.Reply == impl.ErrUser,
			"a reply of a number": got.Reply == impl.ErrRange,
		} {
			if is {
				count[word]++
			}
		}
	}
	askCounts(t, count, 10, "none", "at the first line", "behind others", "in Sure", "in Loose", "with claims", "with instances", "without instances", "to claims", "to fewer instances", "not all bytes kept", "a reply of a user", "a reply of a number")
}

// A crash leaves the processes alone: what the desk has besides comes of the lines.
func TestCrashesForgetTheDesk(t *testing.T) {
	w := commandWorld(t)
	for _, journal := range []impl.Journal{{}, journalOf(packs("tick 7"), ""), journalOf("", packs("tick 7", "start 0 3"))} {
		w.Journal = journal
		n := int64(len(journal.Loose))
		got := askWorld(t, w, crashKeeping(n))
		want := impl.ReplayWorld(w.Desk.Engine.Procs, linesIn(journal))
		if got.Code != 0 || got.Reply != 0 || !impl.SameDesks(got.World.Desk, want.World.Desk) || impl.SameDesks(got.World.Desk, w.Desk) {
			t.Errorf("%q: %s, want %s", linesIn(journal), tellWorld(got), tellWorld(want))
		}
		if !reflect.DeepEqual(bareEngine(impl.Engine{Procs: got.World.Desk.Engine.Procs}), bareEngine(impl.Engine{Procs: w.Desk.Engine.Procs})) {
			t.Errorf("%q: other processes", linesIn(journal))
		}
	}
}

func TestSameDesks(t *testing.T) {
	base := func() impl.Desk { return cloneDesk(baseDesk(t)) }
	if !impl.SameDesks(base(), base()) {
		t.Error("the same are not the same")
	}
	changes := map[string]func(d *impl.Desk){
		"the Now":                   func(d *impl.Desk) { d.Engine.Now++ },
		"the time of a chart":       func(d *impl.Desk) { d.Engine.Insts[2].Chart.Now++ },
		"an act":                    func(d *impl.Desk) { d.Engine.Insts[2].Chart.Acts[1]++ },
		"a due":                     func(d *impl.Desk) { d.Engine.Insts[3].Chart.Dues[0]++ },
		"a variable":                func(d *impl.Desk) { d.Engine.Insts[3].Chart.Vars[3]-- },
		"the process of one":        func(d *impl.Desk) { d.Engine.Insts[0].Proc++ },
		"a status":                  func(d *impl.Desk) { d.Engine.Insts[0].Chart.Status = impl.RunFailed },
		"an instance less":          func(d *impl.Desk) { d.Engine.Insts = d.Engine.Insts[:3] },
		"no instance":               func(d *impl.Desk) { d.Engine.Insts = nil },
		"a process less":            func(d *impl.Desk) { d.Engine.Procs = d.Engine.Procs[:2] },
		"no process":                func(d *impl.Desk) { d.Engine.Procs = nil },
		"the name of a task":        func(d *impl.Desk) { d.Engine.Procs[2].Steps[4].Name = "other" },
		"no engine":                 func(d *impl.Desk) { d.Engine = impl.Engine{} },
		"a claim less":              func(d *impl.Desk) { d.Claims = d.Claims[:2] },
		"the first claim less":      func(d *impl.Desk) { d.Claims = d.Claims[1:] },
		"a claim more":              func(d *impl.Desk) { d.Claims = append(d.Claims, impl.Claim{Inst: 3, Step: 5, User: 1}) },
		"the last claim twice":      func(d *impl.Desk) { d.Claims = append(d.Claims, d.Claims[2]) },
		"a claim of nothing more":   func(d *impl.Desk) { d.Claims = append(d.Claims, impl.Claim{}) },
		"no claims":                 func(d *impl.Desk) { d.Claims = nil },
		"two claims turned":         func(d *impl.Desk) { d.Claims[0], d.Claims[1] = d.Claims[1], d.Claims[0] },
		"the Step as the User":      func(d *impl.Desk) { d.Claims[1].Step, d.Claims[1].User = d.Claims[1].User, d.Claims[1].Step },
		"the Inst as the User":      func(d *impl.Desk) { d.Claims[0].Inst, d.Claims[0].User = d.Claims[0].User, d.Claims[0].Inst },
		"the users of two, turned":  func(d *impl.Desk) { d.Claims[0].User, d.Claims[1].User = d.Claims[1].User, d.Claims[0].User },
		"one claim, all over again": func(d *impl.Desk) { d.Claims = slices.Repeat(d.Claims[:1], 3) },
	}
	for at := range base().Claims {
		name := " of the claim " + strconv.Itoa(at)
		changes["the User"+name] = func(d *impl.Desk) { d.Claims[at].User++ }
		changes["the Step"+name] = func(d *impl.Desk) { d.Claims[at].Step-- }
		changes["the Inst"+name] = func(d *impl.Desk) { d.Claims[at].Inst++ }
		changes["the User, in 32 bits the same,"+name] = func(d *impl.Desk) { d.Claims[at].User += 1 << 32 }
	}
	for why, change := range changes {
		other := base()
		change(&other)
		if reflect.DeepEqual(bareDesk(other), bareDesk(base())) {
			t.Fatalf("%s changes nothing", why)
		}
		if impl.SameDesks(base(), other) || impl.SameDesks(other, base()) {
			t.Errorf("the same in spite of %s", why)
		}
		if !impl.SameDesks(other, cloneDesk(other)) {
			t.Errorf("not the same as itself: %s", why)
		}
		for by, another := range changes {
			second := base()
			another(&second)
			if got := impl.SameDesks(other, second); got != reflect.DeepEqual(bareDesk(other), bareDesk(second)) {
				t.Errorf("%s and %s: the same is %v", why, by, got)
			}
		}
	}
	// Nothing is asked, and nil is the same as no element.
	none := impl.Desk{Engine: impl.Engine{Procs: []impl.Proc{}, Insts: []impl.Inst{}}, Claims: []impl.Claim{}}
	many := impl.Desk{Claims: make([]impl.Claim, 500)}
	if !impl.SameDesks(impl.Desk{}, none) || !impl.SameDesks(none, impl.Desk{}) || !impl.SameDesks(bareDesk(base()), base()) || !impl.SameDesks(many, cloneDesk(many)) || impl.SameDesks(many, none) || impl.SameDesks(none, many) {
		t.Error("of no elements, and of many")
	}
}

// askAllOfWorld asks all that the chapter has functions for.
func askAllOfWorld(w, other impl.World, lines []string, calls []worldCall) []any {
	answers := []any{impl.WorldFault(w), impl.NewWorld(w.Desk.Engine.Procs), impl.ReplayWorld(w.Desk.Engine.Procs, lines), impl.SameDesks(w.Desk, other.Desk), impl.SameDesks(other.Desk, w.Desk), impl.SameDesks(w.Desk, w.Desk)}
	for _, x := range calls {
		answers = append(answers, x.ask(w))
	}
	return answers
}

// someWorld is a world that was played on for a while.
func someWorld(t *testing.T, rnd *rand.Rand) impl.World {
	t.Helper()
	w := impl.NewWorld(deskProcs(t, rnd)).World
	for range rnd.Intn(12) {
		if got := pickWorldCall(rnd, w).ask(w); got.Code == 0 {
			w = got.World
		}
	}
	return w
}

// spoilWorld makes one thing of w another one, right or wrong.
func spoilWorld(t *testing.T, rnd *rand.Rand, w impl.World) impl.World {
	t.Helper()
	w = cloneWorld(w)
	switch rnd.Intn(4) {
	case 0, 1:
		w.Desk = spoilDesk(t, rnd, w.Desk)
	case 2:
		w.Journal = someJournal(rnd)
	case 3:
		more := packs(anyLine(rnd, w.Desk))
		if at := rnd.Intn(3); at == 0 {
			w.Journal.Sure = append(w.Journal.Sure, more...)
		} else if at == 1 {
			w.Journal.Loose = append(w.Journal.Loose, more...)
		} else {
			w.Journal.Sure, w.Journal.Loose = w.Journal.Loose, w.Journal.Sure
		}
	}
	return w
}

// anyLine is a line for a desk that may have a fault.
func anyLine(rnd *rand.Rand, d impl.Desk) string {
	if slowDeskFault(d) == 0 {
		return pickLine(rnd, d)
	}
	calls := wildDeskCalls(rnd, d)
	return commandTold(calls[rnd.Intn(len(calls))])
}

// wildWorldCalls are some calls, with any lines and numbers.
func wildWorldCalls(rnd *rand.Rand, w impl.World) []worldCall {
	wild := make([]byte, rnd.Intn(50))
	rnd.Read(wild)
	n := int64(len(w.Journal.Loose))
	calls := []worldCall{syncAll(), doLine(string(wild)), doLine(spoilLine(rnd, goodLines[rnd.Intn(7)])), crashKeeping(wildNumber(rnd)), crashKeeping(n), crashKeeping(n + 1), crashKeeping(int64(rnd.Intn(int(n) + 1)))}
	for range 3 {
		calls = append(calls, doLine(anyLine(rnd, w.Desk)))
	}
	return calls
}

// wildLines are lines of which a world may come.
func wildLines(t *testing.T, rnd *rand.Rand) []string {
	t.Helper()
	lines := linesIn(someWorld(t, rnd).Journal)
	for range rnd.Intn(2) {
		at := rnd.Intn(len(lines) + 1)
		lines = slices.Insert(lines, at, spoilLine(rnd, goodLines[rnd.Intn(7)]))
	}
	if rnd.Intn(8) == 0 {
		lines = slices.Repeat(lines, 1+rnd.Intn(20))
	}
	return lines
}

// Promise 1: every function answers at every argument and changes none, with nothing beside a code.
func TestWorldsAnswerAtEachArgument(t *testing.T) {
	rnd := rand.New(rand.NewSource(141))
	count := map[string]int{}
	for range 800 {
		w, other := someWorld(t, rnd), someWorld(t, rnd)
		for range rnd.Intn(3) {
			w = spoilWorld(t, rnd, w)
		}
		if rnd.Intn(2) == 0 {
			other = spoilWorld(t, rnd, w)
		}
		procs, lines := w.Desk.Engine.Procs, wildLines(t, rnd)
		before, given := cloneWorld(w), slices.Clone(lines)
		fault := impl.WorldFault(w)
		count["fault "+strconv.FormatInt(fault, 10)]++
		if fault != slowWorldFault(w) {
			t.Fatalf("WorldFault of %v = %d, want %d", w, fault, slowWorldFault(w))
		}
		for _, x := range wildWorldCalls(rnd, w) {
			countWorld(x, askWorld(t, w, x), count)
		}
		got, want := impl.ReplayWorld(procs, lines), slowReplay(procs, lines)
		if !sameWorldResults(got, want) || got.Code != 0 && !reflect.DeepEqual(got, want) {
			t.Fatalf("%q: %s, want %s", lines, tellWorld(got), tellWorld(want))
		}
		count["replay "+strconv.FormatInt(got.Code, 10)]++
		if got.Reply != 0 {
			count["replay with a reply"]++
		}
		code := slowEngineFault(impl.Engine{Procs: procs})
		if fresh := impl.NewWorld(procs); fresh.Code != code || code != 0 && !reflect.DeepEqual(fresh, impl.WorldResult{Code: code}) {
			t.Fatalf("NewWorld(%v) = %v, want the code %d", procs, fresh, code)
		}
		same := reflect.DeepEqual(bareDesk(w.Desk), bareDesk(other.Desk))
		count["same "+strconv.FormatBool(same)]++
		if impl.SameDesks(w.Desk, other.Desk) != same || impl.SameDesks(other.Desk, w.Desk) != same {
			t.Fatalf("%v and %v are the same: %v", w.Desk, other.Desk, !same)
		}
		if !sameWorlds(w, before) || !slices.Equal(lines, given) {
			t.Fatalf("changed: %v, before %v", w, before)
		}
	}
	askCounts(t, count, 5, "fault 0", "fault 1", "fault 2", "fault 3", "fault 4", "fault 5", "do code 2", "do code 5", "crash code 3", "crash code 5", "crash", "sync", "start", "tick", "replay 0", "replay 2", "replay 5", "replay with a reply", "same true", "same false")
	askCounts(t, count, 1, "fault 9", "crash reply 3", "crash reply 10")
}

// roomyWorld is w with room behind each of its lists.
func roomyWorld(w impl.World) impl.World {
	return impl.World{
		Desk:    impl.Desk{Engine: roomyEngine(w.Desk.Engine), Claims: roomyClaims(w.Desk.Claims)},
		Journal: impl.Journal{Sure: roomyBytes(string(w.Journal.Sure)), Loose: roomyBytes(string(w.Journal.Loose))},
	}
}

func askRoomBehindWorld(t *testing.T, why string, w impl.World) {
	t.Helper()
	askRoomBehindEngine(t, w.Desk.Engine)
	askRoomBehindBytes(t, why, w.Journal.Sure)
	askRoomBehindBytes(t, why, w.Journal.Loose)
	if !isRoomWhole(w.Desk.Claims) {
		t.Fatalf("%s: behind the claims is written", why)
	}
}

// fillWorld writes to all memory that a world has, and asks that no two lists of it share any.
func fillWorld(t *testing.T, why string, w impl.World) {
	t.Helper()
	fillBytes(w.Journal.Sure, 6)
	fillBytes(w.Journal.Loose, 7)
	if slices.Contains(w.Journal.Sure, 7) {
		t.Errorf("%s: the two lists of the journal share memory", why)
	}
	fillClaims(w.Desk.Claims, 5)
	askOwnEngine(t, why, w.Desk.Engine)
}

// Promise 1: a world is new memory, no two lists of it share any, and neither an argument nor the room behind it is written to.
func TestWorldsAreNewMemory(t *testing.T) {
	base := doneWorld(t, newWorld(t, tasksBesideAll, failsInTime), "start 0 3", "start 1 1", "claim 4 0 2", "sync", "claim 1 1 1", "claim 4 0 1", "tick 1")
	wrong := cloneWorld(base)
	wrong.Journal = journalOf(packs("start 0 1", "tick 1"), packs("drop 1", "wink"))
	whole := int64(len(base.Journal.Loose))
	for why, x := range map[string]worldCall{
		"a start":                    doLine("start 1 5"),
		"a mail":                     doLine("mail 0 1"),
		"a tick":                     doLine("tick 1"),
		"a tick of nothing":          doLine("tick 0"),
		"a drop":                     doLine("drop 1"),
		"a free":                     doLine("free 4 0 1"),
		"a done":                     doLine("done 4 0 2 9"),
		"a done with its value":      doLine("done 4 0 2 3"),
		"a reply of a start":         doLine("start 2 0"),
		"a reply of a mail":          doLine("mail 0 9"),
		"a reply of a claim":         doLine("claim 4 0 1"),
		"a reply of a done":          doLine("done 1 9 1 1"),
		"a reply of a free":          doLine("free 1 0 1"),
		"a code":                     doLine("wink"),
		"a sync":                     syncAll(),
		"a crash, nothing kept":      crashKeeping(0),
		"a crash, all kept":          crashKeeping(whole),
		"a crash, one line kept":     crashKeeping(14),
		"a crash, all but a byte":    crashKeeping(whole - 1),
		"a crash with a code":        crashKeeping(-1),
		"a crash to a reply":         crashKeeping(9),
		"a crash to a reply at once": crashKeeping(16),
	} {
		for _, given := range []impl.World{base, wrong, {Desk: base.Desk}} {
			w := roomyWorld(given)
			first, second := x.ask(w), x.ask(w)
			want := slowWorldCall(given, x)
			askRoomBehindWorld(t, why, w)
			fillWorld(t, why, first.World)
			if !sameWorldResults(second, want) || !sameWorldResults(x.ask(w), want) {
				t.Errorf("%s: two answers share memory", why)
			}
			askRoomBehindWorld(t, why, w)
			if !sameWorlds(w, given) {
				t.Fatalf("%s: the world was written to", why)
			}
			fillWorld(t, why, w)
			if !sameWorldResults(second, want) {
				t.Errorf("%s: an answer shares memory with the world", why)
			}
		}
	}
}

// Promise 1: a world of processes, and of lines, is new memory.
func TestReplaysAreNewMemory(t *testing.T) {
	procs := readProcs(t, tasksBesideAll, failsInTime)
	for _, lines := range [][]string{nil, {"start 0 3"}, {"start 0 3", "start 1 1", "claim 4 0 2", "tick 1"}, {"start 0 3", "drop 1"}, {"start 0 3", "wink"}} {
		for why, ask := range map[string]func(procs []impl.Proc, lines []string) impl.WorldResult{
			"NewWorld":    func(procs []impl.Proc, _ []string) impl.WorldResult { return impl.NewWorld(procs) },
			"ReplayWorld": impl.ReplayWorld,
		} {
			roomy := roomyEngine(impl.Engine{Procs: procs})
			given := append(slices.Clone(lines), "behind", "behind")[:len(lines)]
			want := slowReplay(procs, lines)
			if why == "NewWorld" {
				want = slowReplay(procs, nil)
			}
			first, second := ask(roomy.Procs, given), ask(roomy.Procs, given)
			fillWorld(t, why, first.World)
			if !sameWorldResults(second, want) || !sameWorldResults(ask(roomy.Procs, given), want) {
				t.Errorf("%s: two answers share memory", why)
			}
			askRoomBehindEngine(t, roomy)
			if !slices.Equal(given, lines) || given[:len(lines)+1][len(lines)] != "behind" || !reflect.DeepEqual(bareEngine(roomy), bareEngine(impl.Engine{Procs: procs})) {
				t.Fatalf("%s: an argument was written to", why)
			}
			askOwnEngine(t, why, roomy)
			if !sameWorldResults(second, want) {
				t.Errorf("%s: an answer shares memory with the processes", why)
			}
		}
	}
}

// Promise 1: an answer hangs on the arguments alone, not on what was asked ahead of it, on an address or on a capacity.
func TestWorldsHangOnArgumentsAlone(t *testing.T) {
	rnd := rand.New(rand.NewSource(142))
	type given struct {
		w, other impl.World
		lines    []string
		calls    []worldCall
	}
	var all []given
	var first [][]any
	for i := range 80 {
		w := someWorld(t, rnd)
		if i%4 == 0 {
			w = spoilWorld(t, rnd, w)
		}
		x := given{w, someWorld(t, rnd), wildLines(t, rnd), wildWorldCalls(rnd, w)}
		all = append(all, x)
		first = append(first, askAllOfWorld(x.w, x.other, x.lines, x.calls))
	}
	for i := len(all) - 1; i >= 0; i-- {
		x := all[i]
		for range 2 {
			got := askAllOfWorld(roomyWorld(x.w), roomyWorld(x.other), slices.Clone(x.lines), x.calls)
			for at, answer := range got {
				is, ok := answer.(impl.WorldResult)
				if ok && !sameWorldResults(is, first[i][at].(impl.WorldResult)) || !ok && answer != first[i][at] {
					t.Errorf("%v, and ahead of that %v", answer, first[i][at])
				}
			}
		}
		bare := impl.World{Desk: bareDesk(x.w.Desk), Journal: x.w.Journal}
		if impl.WorldFault(bare) != first[i][0] {
			t.Errorf("%v has the fault %d", bare, impl.WorldFault(bare))
		}
	}
}
