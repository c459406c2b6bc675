package tests

import (
	"fmt"
	"math"
	"math/rand"
	"slices"
	"strings"
	"testing"

	"loop.example/heliograph/impl"
)

func setOf(tick int, value int64) impl.Set {
	return impl.Set{Tick: tick, Value: value}
}

func boxOf(version int, value int64, acked, sent, heard int) impl.Box {
	return impl.Box{Version: version, Value: value, Acked: acked, Sent: sent, Heard: heard}
}

func trainOf(version int, value int64, stamp int) impl.Train {
	return impl.Train{Version: version, Value: value, Stamp: stamp}
}

func momentOf(b impl.Box, tr impl.Train, sent, taken int) impl.Moment {
	return impl.Moment{Box: b, Train: tr, Sent: sent, Taken: taken}
}

// repeated is a fate of that many copies which all come after as many ticks.
func repeated(after, copies int) []int {
	return slices.Repeat([]int{after}, copies)
}

// course is the arguments of a run.
type course struct {
	rules impl.Rules
	sets  []impl.Set
	fates [][]int
	ticks int
}

func (c course) run() []impl.Moment {
	return impl.Run(c.rules, c.sets, c.fates, c.ticks)
}

func (c course) answer() string {
	return impl.Answer(c.rules, c.sets, c.fates, c.ticks)
}

func (c course) String() string {
	return fmt.Sprintf("%+v, sets %v, fates %v, %d ticks", c.rules, c.sets, c.fates, c.ticks)
}

func wantMoments(t *testing.T, name any, got, want []impl.Moment) {
	t.Helper()
	if len(got) != len(want) {
		t.Errorf("%v: %d moments, want %d", name, len(got), len(want))
		return
	}
	for i := range want {
		if got[i] != want[i] {
			t.Errorf("%v: tick %d: %+v, want %+v", name, i+1, got[i], want[i])
			return
		}
	}
}

// take is a packet that the train took, by the tick in which it did.
type take struct {
	tick    int
	version int
	stamp   int
}

// runByHand is a run whose arguments are right, and what the train took in it. What is sent is laid ahead, into a list for each tick and end; they fill in the order of sending, so none is ever sorted.
func runByHand(c course) ([]impl.Moment, []take) {
	var moments []impl.Moment
	var takes []take
	var b impl.Box
	var tr impl.Train
	toBox, toTrain := make([][]impl.Packet, c.ticks+1001), make([][]impl.Packet, c.ticks+1001)
	number := 0
	send := func(now int, sent []impl.Packet, to [][]impl.Packet) {
		for _, p := range sent {
			for i := 0; number < len(c.fates) && i < len(c.fates[number]); i++ {
				at := now + c.fates[number][i]
				to[at] = append(to[at], p)
			}
			number++
		}
	}
	for now := 1; now <= c.ticks; now++ {
		var values []int64
		for _, s := range c.sets {
			if s.Tick == now {
				values = append(values, s.Value)
			}
		}
		if len(values) > 100 || len(toBox[now]) > 1000 || len(toTrain[now]) > 1000 {
			return nil, nil
		}
		boxed := boxByHand(c.rules, now, b, values, toBox[now])
		send(now, boxed.Sent, toTrain)
		trained := trainByHand(c.rules, now, tr, toTrain[now])
		send(now, trained.Sent, toBox)
		b, tr = boxed.Box, trained.Train
		moments = append(moments, impl.Moment{Box: b, Train: tr, Sent: len(boxed.Sent) + len(trained.Sent), Taken: trained.Taken})
		for _, p := range trained.Sent {
			takes = append(takes, take{now, p.Version, p.Stamp})
		}
	}
	return moments, takes
}

// The numbers of the packets: box 0 in tick 1; box 1 and train 2 in tick 2; box 3; box 4, train 5 and 6 in tick 4; box 7; box 8, train 9.
func TestRunNumbersPacketsOfBoth(t *testing.T) {
	c := course{
		rules: impl.Rules{Every: 1, Silent: 6, Age: 3},
		sets:  []impl.Set{setOf(1, 10), setOf(2, 20), setOf(2, 21), setOf(4, 40)},
		fates: [][]int{{1}, {2}, {1}, {1}, nil, {2}, {1}, {1}, {1}, {1}},
		ticks: 6,
	}
	wantMoments(t, "both under way at once", c.run(), []impl.Moment{
		momentOf(boxOf(1, 10, 0, 1, 0), trainOf(0, 0, 0), 1, 0),
		momentOf(boxOf(3, 21, 0, 2, 0), trainOf(1, 10, 1), 2, 1),
		momentOf(boxOf(3, 21, 1, 3, 1), trainOf(1, 10, 1), 1, 0),
		momentOf(boxOf(4, 40, 1, 4, 1), trainOf(3, 21, 3), 3, 2),
		momentOf(boxOf(4, 40, 3, 5, 3), trainOf(3, 21, 3), 1, 0),
		momentOf(boxOf(4, 40, 3, 6, 3), trainOf(4, 40, 5), 2, 1),
	})
	// Packet 5 answers what was sent in tick 2, packet 6 what was sent in tick 3: of these one alone comes.
	c.fates = [][]int{{1}, {2}, nil, {1}, nil, {1}, nil}
	wantMoments(t, "the first of two answers", c.run()[4:], []impl.Moment{
		momentOf(boxOf(4, 40, 3, 5, 2), trainOf(3, 21, 3), 1, 0),
		momentOf(boxOf(4, 40, 3, 6, 2), trainOf(3, 21, 3), 1, 0),
	})
	c.fates = [][]int{{1}, {2}, nil, {1}, nil, nil, {1}}
	wantMoments(t, "the second of two answers", c.run()[4:], []impl.Moment{
		momentOf(boxOf(4, 40, 3, 5, 3), trainOf(3, 21, 3), 1, 0),
		momentOf(boxOf(4, 40, 3, 6, 3), trainOf(3, 21, 3), 1, 0),
	})
}

// The box sends in the ticks 1, 4 and 7; nothing of it comes before tick 5, so these are packets 0, 1 and 2 or 3.
func TestRunLosesPackets(t *testing.T) {
	sets := []impl.Set{setOf(1, 7)}
	at := func(sent int) impl.Box { return boxOf(1, 7, 0, sent, 0) }
	lost := []impl.Moment{
		momentOf(at(1), trainOf(0, 0, 0), 1, 0), momentOf(at(1), trainOf(0, 0, 0), 0, 0), momentOf(at(1), trainOf(0, 0, 0), 0, 0),
		momentOf(at(4), trainOf(0, 0, 0), 1, 0), momentOf(at(4), trainOf(0, 0, 0), 0, 0), momentOf(at(4), trainOf(0, 0, 0), 0, 0),
		momentOf(at(7), trainOf(0, 0, 0), 1, 0), momentOf(at(7), trainOf(0, 0, 0), 0, 0),
	}
	for _, fates := range [][][]int{nil, {}, {nil}, {{}}, {nil, {}, nil}, {{}, {}, {}, {}, {}}, {nil, nil, nil, {1}}} {
		wantMoments(t, fmt.Sprint("all lost: ", fates), course{plainRules, sets, fates, 8}.run(), lost)
	}
	// Packet 0 has an empty fate, 1 comes, its answer 2 and all later ones are past the last fate.
	got := course{plainRules, sets, [][]int{{}, {1}}, 8}.run()
	wantMoments(t, "the second comes", got, slices.Concat(lost[:4], []impl.Moment{
		momentOf(at(4), trainOf(1, 7, 4), 1, 1), momentOf(at(4), trainOf(1, 7, 4), 0, 0),
		momentOf(at(7), trainOf(1, 7, 4), 1, 0), momentOf(at(7), trainOf(1, 7, 4), 0, 0),
	}))
}

func TestRunBringsCopies(t *testing.T) {
	r := impl.Rules{Every: 100, Silent: 50, Age: 10}
	sets := []impl.Set{setOf(1, 7)}
	before, there := momentOf(boxOf(1, 7, 0, 1, 0), trainOf(0, 0, 0), 0, 0), momentOf(boxOf(1, 7, 0, 1, 0), trainOf(1, 7, 1), 0, 0)
	first, taken := before, there
	first.Sent = 1
	taken.Sent, taken.Taken = 1, 1
	cases := []struct {
		name string
		fate []int
		tick int
	}{
		{"one copy", []int{2}, 3},
		{"three in one tick", []int{2, 2, 2}, 3},
		{"ten in one tick", repeated(2, 10), 3},
		{"in several ticks", []int{1, 2, 4}, 2},
		{"in several ticks, some twice", []int{2, 2, 3, 3, 5}, 3},
		{"numbers that go down", []int{4, 3, 1}, 2},
		{"numbers that go down, one twice", []int{5, 3, 3}, 4},
		{"numbers up and down", []int{3, 5, 2, 4}, 3},
		{"one behind the last tick", []int{1000, 4}, 5},
		{"all behind the last tick", []int{6, 1000}, 7},
	}
	for _, c := range cases {
		var want []impl.Moment
		for tick := 1; tick <= 6; tick++ {
			switch {
			case tick == 1:
				want = append(want, first)
			case tick < c.tick:
				want = append(want, before)
			case tick == c.tick:
				want = append(want, taken)
			default:
				want = append(want, there)
			}
		}
		wantMoments(t, c.name, course{r, sets, [][]int{c.fate}, 6}.run(), want)
	}
}

// The train takes in tick 3 what was set in tick 2; its answer is packet 1.
func TestRunBringsCopiesOfAnswers(t *testing.T) {
	r := impl.Rules{Every: 100, Silent: 50, Age: 10}
	for _, c := range []struct {
		fate []int
		tick int
	}{{[]int{1}, 4}, {[]int{1, 1, 1}, 4}, {[]int{3, 2}, 5}, {[]int{2, 3}, 5}, {[]int{4, 4, 3, 3}, 6}} {
		got := course{r, []impl.Set{setOf(2, -7)}, [][]int{{1}, c.fate}, 8}.run()
		for i, m := range got {
			want := boxOf(0, 0, 0, 0, 0)
			switch {
			case i+1 >= c.tick:
				want = boxOf(1, -7, 1, 2, 2)
			case i+1 >= 2:
				want = boxOf(1, -7, 0, 2, 0)
			}
			if m.Box != want {
				t.Errorf("fate %v of the answer: tick %d: %+v, want %+v", c.fate, i+1, m.Box, want)
			}
		}
	}
}

// Four packets of four ticks come to the train in tick 5, in the order in which they were sent: it takes each. Their answers come to the box in tick 8.
func TestRunBringsSeveralInOneTick(t *testing.T) {
	c := course{
		rules: impl.Rules{Every: 1, Silent: 20, Age: 10},
		sets:  []impl.Set{setOf(2, 5), setOf(4, 6)},
		fates: [][]int{{4}, {3, 3}, {2}, {1, 1, 1}, nil, {3}, {3}, {3}, {3, 3}},
		ticks: 8,
	}
	got := c.run()
	wantMoments(t, "in order", got[3:], []impl.Moment{
		momentOf(boxOf(2, 6, 0, 4, 0), trainOf(0, 0, 0), 1, 0),
		momentOf(boxOf(2, 6, 0, 5, 0), trainOf(2, 6, 4), 5, 4),
		momentOf(boxOf(2, 6, 0, 6, 0), trainOf(2, 6, 4), 1, 0),
		momentOf(boxOf(2, 6, 0, 7, 0), trainOf(2, 6, 4), 1, 0),
		momentOf(boxOf(2, 6, 2, 8, 4), trainOf(2, 6, 4), 1, 0),
	})
	// The answers of what came second and third alone: packets 6 and 7.
	c.fates[5], c.fates[8] = nil, nil
	if got := c.run()[7].Box; got != boxOf(2, 6, 1, 8, 3) {
		t.Errorf("two of the answers: %+v", got)
	}
	// Old ones are not taken, so the one that is has the answer with the number 5.
	c.rules.Age = 1
	c.fates[5], c.fates[6] = []int{3}, nil
	wantMoments(t, "only one is fresh", c.run()[4:], []impl.Moment{
		momentOf(boxOf(2, 6, 0, 5, 0), trainOf(2, 6, 4), 2, 1),
		momentOf(boxOf(2, 6, 0, 6, 0), trainOf(2, 6, 4), 1, 0),
		momentOf(boxOf(2, 6, 0, 7, 0), trainOf(2, 6, 4), 1, 0),
		momentOf(boxOf(2, 6, 2, 8, 4), trainOf(2, 6, 4), 1, 0),
	})
}

// What was sent first comes last: it is older than what the train has, and not taken.
func TestRunBringsOutOfOrder(t *testing.T) {
	c := course{
		rules: impl.Rules{Every: 1, Silent: 20, Age: 10},
		sets:  []impl.Set{setOf(1, 5), setOf(2, 6)},
		fates: [][]int{{3}, {1}},
		ticks: 5,
	}
	wantMoments(t, "the later one first", c.run()[1:], []impl.Moment{
		momentOf(boxOf(2, 6, 0, 2, 0), trainOf(0, 0, 0), 1, 0),
		momentOf(boxOf(2, 6, 0, 3, 0), trainOf(2, 6, 2), 2, 1),
		momentOf(boxOf(2, 6, 0, 4, 0), trainOf(2, 6, 2), 1, 0),
		momentOf(boxOf(2, 6, 0, 5, 0), trainOf(2, 6, 2), 1, 0),
	})
}

func TestRunSets(t *testing.T) {
	r := impl.Rules{Every: 1000, Silent: 20, Age: 10}
	none, sent := trainOf(0, 0, 0), func(b impl.Box) impl.Moment { return momentOf(b, trainOf(0, 0, 0), 1, 0) }
	got := course{r, []impl.Set{setOf(1, 4), setOf(1, 5), setOf(1, -6), setOf(3, 7), setOf(4, 8), setOf(4, 8)}, nil, 4}.run()
	wantMoments(t, "several in a tick, in the first and in the last", got, []impl.Moment{
		sent(boxOf(3, -6, 0, 1, 0)), momentOf(boxOf(3, -6, 0, 1, 0), none, 0, 0), sent(boxOf(4, 7, 0, 3, 0)), sent(boxOf(6, 8, 0, 4, 0)),
	})
	got = course{r, []impl.Set{setOf(1, 4)}, nil, 1}.run()
	wantMoments(t, "one tick", got, []impl.Moment{sent(boxOf(1, 4, 0, 1, 0))})
	got = course{r, []impl.Set{setOf(3, math.MinInt64)}, nil, 3}.run()
	wantMoments(t, "the last tick alone", got, []impl.Moment{
		momentOf(impl.Box{}, none, 0, 0), momentOf(impl.Box{}, none, 0, 0), sent(boxOf(1, math.MinInt64, 0, 3, 0)),
	})
}

// Before anything is set, version 0 is sent, taken and answered like any other.
func TestRunWithoutSets(t *testing.T) {
	got := course{impl.Rules{Every: 2, Silent: 3, Age: 1}, nil, [][]int{{1}, {1}}, 4}.run()
	wantMoments(t, "version 0", got, []impl.Moment{
		momentOf(impl.Box{}, impl.Train{}, 0, 0),
		momentOf(boxOf(0, 0, 0, 2, 0), impl.Train{}, 1, 0),
		momentOf(boxOf(0, 0, 0, 2, 0), trainOf(0, 0, 2), 1, 1),
		momentOf(boxOf(0, 0, 0, 4, 2), trainOf(0, 0, 2), 1, 0),
	})
}

// What is set in the tick in which it is also time to send is sent once.
func TestRunSendsOnceATick(t *testing.T) {
	got := course{impl.Rules{Every: 2, Silent: 3, Age: 1}, []impl.Set{setOf(2, 1), setOf(2, 2), setOf(3, 3)}, nil, 5}.run()
	want := []int{0, 1, 1, 0, 1}
	for i, m := range got {
		if m.Sent != want[i] {
			t.Errorf("tick %d: sent %d, want %d", i+1, m.Sent, want[i])
		}
	}
}

// someCourse is a run with fates of all kinds: lost, late, doubled, out of order.
func someCourse(r *rand.Rand) course {
	silent := 1 + r.Intn(25)
	c := course{rules: impl.Rules{Every: 1 + r.Intn(6), Silent: silent, Age: r.Intn(silent + 1)}, ticks: r.Intn(70)}
	if r.Intn(4) == 0 {
		c.rules.Every = 1 + r.Intn(60)
	}
	if c.ticks > 0 {
		c.sets = someSets(r, c.ticks)
	}
	lost, latest, most := r.Intn(4), 1+r.Intn(12), 1+r.Intn(4)
	c.fates = make([][]int, r.Intn(3*c.ticks+1))
	for i := range c.fates {
		if r.Intn(6) < lost {
			continue
		}
		for range 1 + r.Intn(most) {
			c.fates[i] = append(c.fates[i], 1+r.Intn(latest))
		}
	}
	return c
}

func someSets(r *rand.Rand, ticks int) []impl.Set {
	sets := make([]impl.Set, r.Intn(1+r.Intn(2*ticks)))
	for i := range sets {
		sets[i] = setOf(1+r.Intn(ticks), int64(r.Intn(200)-100))
	}
	slices.SortStableFunc(sets, func(a, b impl.Set) int { return a.Tick - b.Tick })
	return sets
}

func TestRunOfMany(t *testing.T) {
	r := rand.New(rand.NewSource(5))
	several := 0
	for range 3000 {
		c := someCourse(r)
		want, _ := runByHand(c)
		wantMoments(t, c, c.run(), want)
		for _, m := range want {
			if m.Taken > 1 && m.Sent > m.Taken {
				several++
			}
		}
		if t.Failed() {
			return
		}
	}
	if several < 500 {
		t.Errorf("both sent, and the train several, only %d times: the test tells little", several)
	}
}

// Long runs with the greatest fates: very much is under way at once.
func TestRunOfLong(t *testing.T) {
	r := rand.New(rand.NewSource(6))
	for range 6 {
		c := course{rules: impl.Rules{Every: 1 + r.Intn(3), Silent: 10000, Age: 900 + r.Intn(200)}, ticks: impl.MaxTicks}
		for i := range impl.MaxSets {
			c.sets = append(c.sets, setOf(1+i*10, int64(i)*7-500))
		}
		c.fates = make([][]int, impl.MaxFates)
		for i := range c.fates {
			for range r.Intn(11) {
				c.fates[i] = append(c.fates[i], 1+r.Intn(1000))
			}
		}
		want, takes := runByHand(c)
		wantMoments(t, "a long run", c.run(), want)
		if len(takes) < 50 {
			t.Errorf("only %d taken: the test tells little", len(takes))
		}
	}
}

func TestStood(t *testing.T) {
	// Ticks don't count here, not even those that no run takes.
	sets := []impl.Set{setOf(1, 42), setOf(1, -7), setOf(9, 0), setOf(4, math.MaxInt64), setOf(-3, math.MinInt64), setOf(0, 5)}
	for i, s := range sets {
		if got := impl.Stood(sets, i+1); got != s.Value {
			t.Errorf("version %d: %d, want %d", i+1, got, s.Value)
		}
		if got := impl.Stood(sets[:i], i+1); got != 0 {
			t.Errorf("version %d of %d sets: %d", i+1, i, got)
		}
	}
	for _, version := range []int{0, -1, -6, 7, 8, impl.MaxVersion, math.MaxInt, math.MaxInt - 1, math.MinInt, math.MinInt + 1} {
		if got := impl.Stood(sets, version); got != 0 {
			t.Errorf("version %d: %d", version, got)
		}
	}
	for _, version := range []int{math.MinInt, -1, 0, 1, math.MaxInt} {
		if impl.Stood(nil, version) != 0 || impl.Stood([]impl.Set{}, version) != 0 {
			t.Errorf("version %d of no sets", version)
		}
	}
	many := make([]impl.Set, 1000)
	many[0].Value, many[999].Value = 3, 4
	if impl.Stood(many, 1) != 3 || impl.Stood(many, 1000) != 4 || impl.Stood(many, 1001) != 0 {
		t.Error("of more sets than a run takes")
	}
}

// Since the train took whatever the box heard of, the train alone is never silent.
func TestAnswerLines(t *testing.T) {
	cases := []struct {
		name string
		c    course
		want string
	}{
		{"nobody is silent, then both, then the box, then nobody", course{impl.Rules{Every: 3, Silent: 2, Age: 2}, []impl.Set{setOf(1, -42)}, [][]int{{1}, {1}, nil, {1}, {1}}, 9},
			"1 box 1/0 train 0 0\n" +
				"2 box 1/0 train 1 -42\n" +
				"3 box 1/1 train 1 -42\n" +
				"4 box 1/1 silent train 1 -42 silent\n" +
				"5 box 1/1 silent train 1 -42 silent\n" +
				"6 box 1/1 silent train 1 -42 silent\n" +
				"7 box 1/1 silent train 1 -42 silent\n" +
				"8 box 1/1 silent train 1 -42\n" +
				"9 box 1/1 train 1 -42\n"},
		{"no ticks", course{plainRules, nil, [][]int{{1}}, 0}, ""},
		{"one tick in which nothing is sent", course{plainRules, nil, nil, 1}, "1 box 0/0 train 0 0\n"},
		{"great numbers", course{impl.Rules{Every: 1, Silent: 1, Age: 1}, []impl.Set{setOf(1, math.MaxInt64), setOf(2, math.MinInt64)}, [][]int{{1}, {1}}, 3},
			"1 box 1/0 train 0 0\n" +
				"2 box 2/0 silent train 1 9223372036854775807\n" +
				"3 box 2/0 silent train 2 -9223372036854775808\n"},
		{"a box that hears of an older version", course{impl.Rules{Every: 5, Silent: 9, Age: 9}, []impl.Set{setOf(1, 5), setOf(2, 6)}, [][]int{{1}, {2}, {2}}, 4},
			"1 box 1/0 train 0 0\n" +
				"2 box 2/0 train 1 5\n" +
				"3 box 2/0 train 1 5\n" +
				"4 box 2/1 train 2 6\n"},
	}
	for _, c := range cases {
		if got := c.c.answer(); got != c.want {
			t.Errorf("%s:\n%s, want\n%s", c.name, got, c.want)
		}
	}
}

// linesByHand tells moments as the document has it.
func linesByHand(r impl.Rules, moments []impl.Moment) string {
	var out strings.Builder
	for i, m := range moments {
		box, train := "", ""
		if i+1-m.Box.Heard > r.Silent {
			box = " silent"
		}
		if i+1-m.Train.Stamp > r.Silent {
			train = " silent"
		}
		fmt.Fprintf(&out, "%d box %d/%d%s train %d %d%s\n", i+1, m.Box.Version, m.Box.Acked, box, m.Train.Version, m.Train.Value, train)
	}
	return out.String()
}

func TestAnswerOfMany(t *testing.T) {
	r := rand.New(rand.NewSource(7))
	both, one, nobody := 0, 0, 0
	for range 1500 {
		c := someCourse(r)
		moments, _ := runByHand(c)
		want := linesByHand(c.rules, moments)
		if got := c.answer(); got != want {
			t.Fatalf("%v:\n%s, want\n%s", c, got, want)
		}
		for _, line := range strings.SplitAfter(want, "\n") {
			switch strings.Count(line, "silent") {
			case 2:
				both++
			case 1:
				one++
			default:
				nobody++
			}
		}
	}
	if both < 1000 || one < 1000 || nobody < 1000 {
		t.Errorf("silent both %d, one %d, nobody %d times: the test tells little", both, one, nobody)
	}
}
