package tests

import (
	"fmt"
	"math/rand"
	"runtime"
	"slices"
	"sync"
	"testing"

	"loop.example/heliograph/impl"
)

// eachMoment hands over the moments of many runs with fates of all kinds, one at a time: the run, all its moments, what was taken in it, and the tick.
func eachMoment(t *testing.T, seed int64, check func(c course, moments []impl.Moment, takes []take, now int) error) {
	t.Helper()
	r := rand.New(rand.NewSource(seed))
	for range 1500 {
		c := someCourse(r)
		moments := c.run()
		want, takes := runByHand(c)
		wantMoments(t, c, moments, want)
		for now := 1; now <= len(moments); now++ {
			if err := check(c, moments, takes, now); err != nil {
				t.Errorf("%v: tick %d: %v", c, now, err)
			}
		}
		if t.Failed() {
			return
		}
	}
}

// valueOf is the value of a version, without the help of Stood.
func valueOf(sets []impl.Set, version int) int64 {
	if version == 0 {
		return 0
	}
	return sets[version-1].Value
}

func wasTaken(takes []take, now int, fits func(take) bool) bool {
	return slices.ContainsFunc(takes, func(k take) bool { return k.tick <= now && fits(k) })
}

// P4: what the train has is what the box sent at Stamp, and stood then.
func TestWhatTheTrainHasStood(t *testing.T) {
	had := 0
	eachMoment(t, 11, func(c course, moments []impl.Moment, _ []take, now int) error {
		tr := moments[now-1].Train
		if tr.Version < 0 || tr.Version > len(c.sets) || tr.Value != valueOf(c.sets, tr.Version) || tr.Value != impl.Stood(c.sets, tr.Version) {
			return fmt.Errorf("no version has this value: %+v", tr)
		}
		if tr.Stamp == 0 {
			if tr != (impl.Train{}) {
				return fmt.Errorf("taken of nothing: %+v", tr)
			}
			return nil
		}
		if tr.Stamp >= now {
			return fmt.Errorf("taken ahead of its time: %+v", tr)
		}
		had++
		if b := moments[tr.Stamp-1].Box; b.Sent != tr.Stamp || b.Version != tr.Version || b.Value != tr.Value {
			return fmt.Errorf("%+v is not what %+v sent", tr, b)
		}
		if tr.Version > 0 && c.sets[tr.Version-1].Tick > tr.Stamp || tr.Version < len(c.sets) && c.sets[tr.Version].Tick <= tr.Stamp {
			return fmt.Errorf("%+v did not stand then", tr)
		}
		return nil
	})
	if had < 10000 {
		t.Errorf("the train had something in only %d moments: the test tells little", had)
	}
}

func TestVersionsNeverGoBack(t *testing.T) {
	eachMoment(t, 12, func(c course, moments []impl.Moment, _ []take, now int) error {
		var before impl.Moment
		if now > 1 {
			before = moments[now-2]
		}
		m := moments[now-1]
		if m.Train.Version < before.Train.Version || m.Train.Stamp < before.Train.Stamp {
			return fmt.Errorf("the train went back from %+v to %+v", before.Train, m.Train)
		}
		if m.Box.Version < before.Box.Version || m.Box.Acked < before.Box.Acked || m.Box.Heard < before.Box.Heard || m.Box.Sent < before.Box.Sent {
			return fmt.Errorf("the box went back from %+v to %+v", before.Box, m.Box)
		}
		return nil
	})
}

func TestWhatWasAnsweredTheTrainHad(t *testing.T) {
	answered, behind := 0, 0
	eachMoment(t, 13, func(c course, moments []impl.Moment, takes []take, now int) error {
		m := moments[now-1]
		if m.Box.Acked > m.Train.Version || m.Box.Heard > m.Train.Stamp {
			return fmt.Errorf("%+v was answered what %+v never had", m.Box, m.Train)
		}
		// An answer is a tick under way at least.
		if m.Box.Acked > 0 && !wasTaken(takes, now-1, func(k take) bool { return k.version == m.Box.Acked }) {
			return fmt.Errorf("%+v: this version was not taken", m.Box)
		}
		if m.Box.Heard > 0 && !wasTaken(takes, now-1, func(k take) bool { return k.stamp == m.Box.Heard }) {
			return fmt.Errorf("%+v: what was heard was not taken", m.Box)
		}
		if m.Box.Acked > 0 {
			answered++
		}
		if m.Box.Acked > 0 && m.Box.Acked < m.Train.Version {
			behind++
		}
		return nil
	})
	if answered < 5000 || behind < 500 {
		t.Errorf("answered in %d moments, with an older version in %d: the test tells little", answered, behind)
	}
}

// P5, from the moments alone.
func TestWhatIsTakenIsFresh(t *testing.T) {
	oldest := 0
	eachMoment(t, 14, func(c course, moments []impl.Moment, _ []take, now int) error {
		var before impl.Moment
		if now > 1 {
			before = moments[now-2]
		}
		m := moments[now-1]
		if m.Taken == 0 {
			if m.Train != before.Train {
				return fmt.Errorf("nothing was taken, and %+v became %+v", before.Train, m.Train)
			}
			return nil
		}
		if m.Train.Stamp <= before.Train.Stamp || now-m.Train.Stamp > c.rules.Age {
			return fmt.Errorf("taken behind %+v: %+v", before.Train, m.Train)
		}
		// No two packets that it takes have one Stamp, and the box sends once a tick.
		if m.Taken > m.Train.Stamp-before.Train.Stamp {
			return fmt.Errorf("%d taken from %+v to %+v", m.Taken, before.Train, m.Train)
		}
		if now-m.Train.Stamp == c.rules.Age {
			oldest++
		}
		return nil
	})
	if oldest < 100 {
		t.Errorf("only %d were taken that are as old as may be: the test tells little", oldest)
	}
}

// P5, of each packet by itself.
func TestEachTakenIsFresherThanTheLast(t *testing.T) {
	eachMoment(t, 15, func(c course, moments []impl.Moment, takes []take, now int) error {
		taken := 0
		var last take
		for _, k := range takes {
			if k.tick == now {
				taken++
				if k.stamp <= last.stamp || k.version < last.version || now-k.stamp > c.rules.Age || k.stamp >= now {
					return fmt.Errorf("taken behind %+v: %+v", last, k)
				}
			}
			if k.tick <= now {
				last = k
			}
		}
		m := moments[now-1]
		if m.Taken != taken || m.Train.Stamp != last.stamp || m.Train.Version != last.version {
			return fmt.Errorf("%+v, having taken %d, the last %+v", m, taken, last)
		}
		return nil
	})
}

// P6.
func TestTheBoxKnowsWhatTheTrainMayHave(t *testing.T) {
	unsure, quiet, edge := 0, 0, 0
	eachMoment(t, 16, func(c course, moments []impl.Moment, _ []take, now int) error {
		m := moments[now-1]
		has := impl.MayHave(c.rules, m.Box)
		if m.Train.Version < has.Low || m.Train.Version > has.High {
			return fmt.Errorf("%+v has none of %+v", m.Train, has)
		}
		silent := impl.TrainSilent(c.rules, now, m.Train)
		if (now-m.Box.Sent > c.rules.Silent || now > has.Until) && !silent {
			return fmt.Errorf("%+v is not silent, though the box sent nothing since %d", m.Train, m.Box.Sent)
		}
		if has.Low < has.High {
			unsure++
		}
		if now-m.Box.Sent > c.rules.Silent {
			quiet++
		}
		if now == has.Until && !silent {
			edge++
		}
		return nil
	})
	if unsure < 5000 || quiet < 1000 || edge < 20 {
		t.Errorf("unsure in %d moments, the box quiet in %d, the train not silent to the last in %d: the test tells little", unsure, quiet, edge)
	}
}

// TestSilenceByATickThatCanBeTold has a box that sends once; the train that took it is silent from the tick behind Until on.
func TestSilenceByATickThatCanBeTold(t *testing.T) {
	for _, silent := range []int{1, 2, 7, 500} {
		c := course{impl.Rules{Every: 1000, Silent: silent, Age: silent}, []impl.Set{setOf(3, 9)}, [][]int{{1}}, silent + 10}
		for i, m := range c.run() {
			now := i + 1
			until := impl.MayHave(c.rules, m.Box).Until
			if want := now > until; now > 3 && (until != 3+silent || impl.TrainSilent(c.rules, now, m.Train) != want) {
				t.Errorf("silent %d: tick %d, until %d: %+v", silent, now, until, m.Train)
			}
		}
	}
}

// inTimeCourse is a run in which each packet comes after at most d ticks, whatever copies of it come later.
func inTimeCourse(r *rand.Rand) (course, int) {
	d := 1 + r.Intn(8)
	age := d + r.Intn(3)
	every := 1 + r.Intn(6)
	c := course{rules: impl.Rules{Every: every, Silent: max(age, every+2*d+r.Intn(3)-1), Age: age}, ticks: 20 + r.Intn(80)}
	c.sets = someSets(r, c.ticks)
	c.fates = make([][]int, 2*c.ticks)
	for i := range c.fates {
		c.fates[i] = []int{1 + r.Intn(d)}
		if r.Intn(3) == 0 {
			c.fates[i] = []int{1 + r.Intn(40), c.fates[i][0], 1 + r.Intn(d)}
		}
		if r.Intn(3) == 0 {
			c.fates[i][len(c.fates[i])-1] = d
		}
	}
	return c, d
}

// P7: at every tick, what stood d ticks ago is there, and what stood 2 d ticks ago is answered; from so long after the last set on, it is that one.
func TestWhatComesInTimeIsThere(t *testing.T) {
	r := rand.New(rand.NewSource(17))
	heard, exact := 0, 0
	for range 1500 {
		c, d := inTimeCourse(r)
		moments := c.run()
		if len(moments) != c.ticks {
			t.Fatalf("%v: refused", c)
		}
		for i, m := range moments {
			if i >= d && m.Train.Version < moments[i-d].Box.Version {
				t.Fatalf("%v: d %d: tick %d: %+v, but %+v stood", c, d, i+1, m.Train, moments[i-d].Box)
			}
			if i >= 2*d && m.Box.Acked < moments[i-2*d].Box.Version {
				t.Fatalf("%v: d %d: tick %d: %+v, but %+v stood", c, d, i+1, m.Box, moments[i-2*d].Box)
			}
			checkLastSet(t, c, d, i+1, m)
			if c.rules.Every+2*d > c.rules.Silent {
				continue
			}
			if impl.BoxSilent(c.rules, i+1, m.Box) || impl.TrainSilent(c.rules, i+1, m.Train) {
				t.Fatalf("%v: d %d: tick %d: silent: %+v", c, d, i+1, m)
			}
			heard++
			if c.rules.Every+2*d == c.rules.Silent && i >= c.rules.Silent {
				exact++
			}
		}
	}
	if heard < 10000 || exact < 5000 {
		t.Errorf("nobody may be silent in %d moments, just so in %d: the test tells little", heard, exact)
	}
}

func checkLastSet(t *testing.T, c course, d, now int, m impl.Moment) {
	t.Helper()
	n := len(c.sets)
	if n == 0 {
		return
	}
	last := c.sets[n-1]
	if now >= last.Tick+d && (m.Train.Version != n || m.Train.Value != last.Value) {
		t.Fatalf("%v: d %d: tick %d: the last set is not there: %+v", c, d, now, m.Train)
	}
	if now >= last.Tick+2*d && m.Box.Acked != n {
		t.Fatalf("%v: d %d: tick %d: the last set is not answered: %+v", c, d, now, m.Box)
	}
}

// Each packet comes after just d ticks, and is then just as old as may be: what is set is there, and answered, no tick earlier or later.
func TestWhatComesInTimeToTheTick(t *testing.T) {
	for d := 1; d <= 40; d++ {
		for _, every := range []int{1, 2, 7, 1000} {
			c := course{impl.Rules{Every: every, Silent: 1000, Age: d}, []impl.Set{setOf(5, -3), setOf(5, 11)}, slices.Repeat([][]int{{d}}, 600), 200}
			for i, m := range c.run() {
				now := i + 1
				if there := m.Train.Version == 2 && m.Train.Value == 11; there != (now >= 5+d) {
					t.Errorf("d %d, every %d: tick %d: %+v", d, every, now, m.Train)
				}
				if answered := m.Box.Acked == 2; answered != (now >= 5+2*d) {
					t.Errorf("d %d, every %d: tick %d: %+v", d, every, now, m.Box)
				}
			}
		}
	}
}

// The first of two answers comes after d and d ticks, the next one Every ticks later: with Silent two less than all that the box does fall silent.
func TestSilenceJustAvoided(t *testing.T) {
	for d := 1; d <= 10; d++ {
		for every := 1; every <= 10; every++ {
			c := course{impl.Rules{Every: every, Silent: every + 2*d, Age: d}, nil, slices.Repeat([][]int{{d}}, 600), 200}
			silent := func() (n int) {
				for i, m := range c.run() {
					if impl.BoxSilent(c.rules, i+1, m.Box) || impl.TrainSilent(c.rules, i+1, m.Train) {
						n++
					}
				}
				return n
			}
			if n := silent(); n != 0 {
				t.Errorf("every %d, d %d: silent in %d ticks", every, d, n)
			}
			c.rules.Silent = every + 2*d - 2
			if n := silent(); n == 0 {
				t.Errorf("every %d, d %d, silent %d: never silent", every, d, c.rules.Silent)
			}
		}
	}
}

// withCopies is the fates with more copies of what comes, each in a tick in which its packet comes anyway.
func withCopies(r *rand.Rand, fates [][]int) [][]int {
	out := make([][]int, len(fates))
	for i, fate := range fates {
		out[i] = slices.Clone(fate)
		for len(fate) > 0 && len(out[i]) < 10 && r.Intn(4) > 0 {
			out[i] = slices.Insert(out[i], r.Intn(len(out[i])+1), fate[r.Intn(len(fate))])
		}
	}
	return out
}

// P8.
func TestCopiesThatComeWithTheirPacket(t *testing.T) {
	r := rand.New(rand.NewSource(18))
	more := 0
	for i := range 2000 {
		c := someCourse(r)
		if i%4 == 0 {
			c, _ = inTimeCourse(r)
		}
		want, lines := c.run(), c.answer()
		copied := c
		for range 3 {
			copied.fates = withCopies(r, c.fates)
			wantMoments(t, copied, copied.run(), want)
			if got := copied.answer(); got != lines {
				t.Errorf("%v:\n%s, want\n%s", copied, got, lines)
			}
			for i := range c.fates {
				more += len(copied.fates[i]) - len(c.fates[i])
			}
		}
		if t.Failed() {
			return
		}
	}
	if more < 100000 {
		t.Errorf("only %d copies: the test tells little", more)
	}
}

// roomy is a run in whose lists there is room behind the end, so that what writes past it is seen too, and all of what lies there.
func roomy() (course, func() string) {
	sets := []impl.Set{setOf(1, 5), setOf(2, 6), setOf(2, 7), setOf(6, 8), setOf(77, 77), setOf(78, 78)}
	numbers := []int{1, 3, 2, 2, 1, 4, 1, 2, 77, 78}
	fates := [][]int{numbers[0:2], numbers[2:4], nil, numbers[4:6], {}, numbers[6:7], numbers[7:8], {1}, {77}, {78}}
	c := course{impl.Rules{Every: 2, Silent: 5, Age: 4}, sets[:4], fates[:8], 12}
	return c, func() string { return fmt.Sprint(sets, numbers, fates) }
}

// P9.
func TestRunArgumentsAreLeftAlone(t *testing.T) {
	for _, spoil := range []func(*course){
		func(*course) {},
		func(c *course) { c.rules.Every = 0 },
		func(c *course) { c.ticks = 5 },
		func(c *course) { c.ticks = impl.MaxTicks + 1 },
		func(c *course) { c.fates[7][0] = 1001 },
		func(c *course) { c.sets[3].Tick = 1 },
		func(c *course) { *c = comingToTrain(1001, 300) },
	} {
		c, all := roomy()
		spoil(&c)
		before, given := all(), c.String()
		moments, lines := c.run(), c.answer()
		for version := -1; version <= 8; version++ {
			impl.Stood(c.sets, version)
		}
		if all() != before || c.String() != given {
			t.Errorf("arguments became %s and %v", all(), c)
		}
		for range 200 {
			wantMoments(t, "again", c.run(), moments)
			if got := c.answer(); got != lines {
				t.Fatalf("again: %q, want %q", got, lines)
			}
		}
	}
}

func TestRunAnswersShareNoMemory(t *testing.T) {
	c, all := roomy()
	before := all()
	want, _ := runByHand(c)
	lines := linesByHand(c.rules, want)
	one, two, told := c.run(), c.run(), c.answer()
	one = one[:cap(one)]
	for i := range one {
		one[i] = momentOf(boxOf(9, 9, 9, 9, 9), trainOf(9, 9, 9), 9, 9)
	}
	if all() != before {
		t.Errorf("arguments changed with an answer: %s", all())
	}
	wantMoments(t, "the second answer", two, want)
	again, _ := roomy()
	wantMoments(t, "a third", again.run(), want)
	// What is done to the arguments afterwards is not to be seen in an answer.
	for _, fate := range c.fates {
		clear(fate)
	}
	clear(c.fates)
	clear(c.sets)
	wantMoments(t, "the second answer, with other arguments", two, want)
	if told != lines {
		t.Errorf("%q, want %q", told, lines)
	}
}

// The runs leave no goroutine, be they refused, stopped in a tick, or whole.
func TestRunsLeaveNoGoroutine(t *testing.T) {
	before := runtime.NumGoroutine()
	for range 50 {
		plainCourse().run()
		plainCourse().answer()
		course{}.run()
		comingToTrain(1001, 300).run()
		comingToBox(1001, 300).answer()
		course{plainRules, slices.Repeat([]impl.Set{setOf(4, 1)}, 101), nil, 9}.run()
	}
	if after := waitForGoroutines(before); after > before {
		t.Errorf("%d goroutines before, %d after", before, after)
	}
}

func TestRunsAtTheSameTime(t *testing.T) {
	c, _ := roomy()
	want, _ := runByHand(c)
	lines := linesByHand(c.rules, want)
	var all sync.WaitGroup
	for range 16 {
		all.Go(func() {
			for range 50 {
				wantMoments(t, "beside others", c.run(), want)
				if got := c.answer(); got != lines {
					t.Errorf("%q, want %q", got, lines)
				}
			}
		})
	}
	all.Wait()
}
