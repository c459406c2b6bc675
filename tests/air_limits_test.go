package tests

import (
	"fmt"
	"math"
	"slices"
	"testing"

	"loop.example/heliograph/impl"
)

// wantRefused asks that there is no such run, told in moments or in lines.
func wantRefused(t *testing.T, name string, c course) {
	t.Helper()
	if got := c.run(); len(got) != 0 {
		t.Errorf("%s: %d moments", name, len(got))
	}
	if got := c.answer(); got != "" {
		t.Errorf("%s: %.80q", name, got)
	}
}

// wantAccepted asks for the run as it is by hand.
func wantAccepted(t *testing.T, name string, c course) {
	t.Helper()
	want, _ := runByHand(c)
	if len(want) != c.ticks {
		t.Errorf("%s: by hand it is refused", name)
		return
	}
	wantMoments(t, name, c.run(), want)
	if got := c.answer(); got != linesByHand(c.rules, want) {
		t.Errorf("%s: other lines", name)
	}
}

// plainCourse is right, and something happens in it.
func plainCourse() course {
	return course{plainRules, []impl.Set{setOf(1, 5), setOf(4, 6), setOf(6, 7)}, [][]int{{1}, {2}, {1}, {1}, {3}, {1}}, 9}
}

func TestRunLimitsOfRules(t *testing.T) {
	c := plainCourse()
	for _, c.rules = range rightRules() {
		wantAccepted(t, c.String(), c)
	}
	for _, c.rules = range wrongRules() {
		wantRefused(t, c.String(), c)
		wantRefused(t, "without sets and fates", course{rules: c.rules, ticks: 9})
	}
}

func TestRunLimitsOfTicks(t *testing.T) {
	for _, c := range []course{plainCourse(), {rules: plainRules}} {
		for _, c.ticks = range []int{9, 10, impl.MaxTicks - 1, impl.MaxTicks} {
			wantAccepted(t, fmt.Sprintf("%d ticks", c.ticks), c)
		}
		for _, c.ticks = range []int{-1, -2, math.MinInt, impl.MaxTicks + 1, impl.MaxTicks + 2, math.MaxInt} {
			wantRefused(t, fmt.Sprintf("%d ticks", c.ticks), c)
		}
	}
	wantAccepted(t, "no ticks", course{rules: plainRules, fates: [][]int{{1}}})
	wantAccepted(t, "one tick", course{plainRules, []impl.Set{setOf(1, 3)}, nil, 1})
	// Without a tick there is none to set in.
	for _, tick := range []int{-1, 0, 1} {
		wantRefused(t, "no ticks, and a set", course{rules: plainRules, sets: []impl.Set{setOf(tick, 3)}})
	}
}

// setsOver is that many sets, as even as can be over the ticks 1 to ticks.
func setsOver(sets, ticks int) []impl.Set {
	var out []impl.Set
	for i := range sets {
		out = append(out, setOf(1+i*ticks/sets, int64(i)-50))
	}
	return out
}

func TestRunLimitsOfSets(t *testing.T) {
	c := plainCourse()
	for _, ticks := range []int{9, 200, 300, impl.MaxTicks} {
		c.ticks = ticks
		for _, n := range []int{0, 1, impl.MaxSets - 1, impl.MaxSets} {
			c.sets = setsOver(n, ticks)
			wantAccepted(t, fmt.Sprintf("%d sets in %d ticks", n, ticks), c)
		}
		for _, n := range []int{impl.MaxSets + 1, impl.MaxSets + 2, 10 * impl.MaxSets} {
			c.sets = setsOver(n, ticks)
			wantRefused(t, fmt.Sprintf("%d sets in %d ticks", n, ticks), c)
		}
	}
}

func TestRunLimitsOfTheTicksOfSets(t *testing.T) {
	c := plainCourse()
	right := [][]int{{1}, {9}, {1, 9}, {1, 1, 9, 9}, {1, 2, 3, 4, 5, 6, 7, 8, 9}, {5, 5, 5}, {8, 9, 9}}
	wrong := [][]int{
		{0}, {-1}, {math.MinInt}, {10}, {11}, {impl.MaxTicks}, {math.MaxInt},
		{0, 1}, {0, 0}, {-1, 0, 1}, {9, 10}, {1, 10}, {10, 10}, {1, 9, math.MaxInt},
		{2, 1}, {9, 1}, {9, 8}, {1, 3, 2}, {4, 3, 5}, {3, 3, 2, 3}, {1, 2, 3, 1}, {5, 0}, {5, -1}, {5, math.MinInt}, {1, 2, 3, 4, 9, 8},
	}
	setsOf := func(ticks []int) []impl.Set {
		var out []impl.Set
		for i, tick := range ticks {
			out = append(out, setOf(tick, int64(i)+3))
		}
		return out
	}
	for _, ticks := range right {
		c.sets = setsOf(ticks)
		wantAccepted(t, fmt.Sprint("sets in ", ticks), c)
	}
	for _, ticks := range wrong {
		c.sets = setsOf(ticks)
		wantRefused(t, fmt.Sprint("sets in ", ticks), c)
	}
}

func TestRunLimitsOfFates(t *testing.T) {
	c := plainCourse()
	few := c.fates
	want := c.run()
	for _, n := range []int{len(few), impl.MaxFates - 1, impl.MaxFates} {
		for _, rest := range [][]int{nil, {}, {1}} {
			c.fates = slices.Concat(few, slices.Repeat([][]int{rest}, n-len(few)))
			wantAccepted(t, fmt.Sprintf("%d fates", n), c)
		}
	}
	for _, n := range []int{impl.MaxFates + 1, impl.MaxFates + 2, 4 * impl.MaxFates} {
		for _, rest := range [][]int{nil, {}, {1}} {
			// No packet has a number as great as that.
			c.fates = slices.Concat(few, slices.Repeat([][]int{rest}, n-len(few)))
			wantRefused(t, fmt.Sprintf("%d fates", n), c)
			c.fates = slices.Repeat([][]int{rest}, n)
			wantRefused(t, fmt.Sprintf("%d fates", n), c)
		}
	}
	c.fates = few
	wantMoments(t, "the few fates again", c.run(), want)
}

// places is where a fate may be wrong: that of a packet, the last that one has, and those that none has.
func places() []int {
	return []int{0, 1, 2, 5, 20, 100, impl.MaxFates - 1}
}

func withFate(at int, fate []int) course {
	c := plainCourse()
	for len(c.fates) <= at {
		c.fates = append(c.fates, []int{2})
	}
	c.fates[at] = fate
	return c
}

func TestRunLimitsOfAFate(t *testing.T) {
	for _, at := range places() {
		for _, n := range []int{0, 1, 9, 10} {
			wantAccepted(t, fmt.Sprintf("%d copies of packet %d", n, at), withFate(at, repeated(2, n)))
		}
		for _, n := range []int{11, 12, 20, 1000} {
			wantRefused(t, fmt.Sprintf("%d copies of packet %d", n, at), withFate(at, repeated(2, n)))
		}
		for _, after := range []int{1, 2, 999, 1000} {
			for _, fate := range [][]int{{after}, {after, 3}, {3, after}, append(repeated(3, 9), after)} {
				wantAccepted(t, fmt.Sprintf("packet %d after %v", at, fate), withFate(at, fate))
			}
		}
		for _, after := range []int{0, -1, -1000, math.MinInt, 1001, 1002, math.MaxInt} {
			for _, fate := range [][]int{{after}, {after, 3}, {3, after}, {3, after, 3}, append(repeated(3, 9), after)} {
				wantRefused(t, fmt.Sprintf("packet %d after %v", at, fate), withFate(at, fate))
			}
		}
	}
}

// Fates are looked at even where nothing is ever sent.
func TestRunLimitsOfFatesOfNothing(t *testing.T) {
	c := course{rules: impl.Rules{Every: 1000, Silent: 10, Age: 4}, ticks: 5}
	for _, fates := range [][][]int{{nil, {1}}, {{1000}}, {repeated(1000, 10)}, {nil, nil, repeated(1, 10)}} {
		c.fates = fates
		wantAccepted(t, fmt.Sprint(fates), c)
	}
	for _, fates := range [][][]int{{{0}}, {{1001}}, {nil, {-1}}, {{1}, {1, 2, 0}}, {repeated(1, 11)}, {nil, nil, repeated(1000, 11)}, make([][]int, impl.MaxFates+1)} {
		c.fates = fates
		wantRefused(t, fmt.Sprintf("%d fates %.1v", len(fates), fates), c)
	}
}

// What comes after 1000 ticks does come.
func TestRunLatestOfAll(t *testing.T) {
	c := course{impl.Rules{Every: 1000, Silent: 1000, Age: 1000}, []impl.Set{setOf(3, 8)}, [][]int{{1000}, {500}, {900}}, impl.MaxTicks}
	got := c.run()
	if len(got) != impl.MaxTicks {
		t.Fatalf("%d moments", len(got))
	}
	// The box sends in tick 3 and in tick 1003, the train answers in tick 1003, behind the box: packets 0, 1 and 2.
	if got[1001].Train != (impl.Train{}) || got[1002] != momentOf(boxOf(1, 8, 0, 1003, 0), trainOf(1, 8, 3), 2, 1) {
		t.Errorf("%+v, %+v", got[1001], got[1002])
	}
	if got[1502] != momentOf(boxOf(1, 8, 0, 1003, 0), trainOf(1, 8, 1003), 1, 1) || got[1901].Box.Acked != 0 || got[1902].Box != boxOf(1, 8, 1, 1003, 3) {
		t.Errorf("%+v, %+v, %+v", got[1502], got[1901], got[1902])
	}
	c.rules.Age = 999
	if got := c.run(); got[1002].Taken != 0 || got[1502].Taken != 1 {
		t.Errorf("with Age 999: %+v, %+v", got[1002], got[1502])
	}
}

func TestRunLimitsOfValuesInOneTick(t *testing.T) {
	for _, ticks := range []int{1, 2, 9, impl.MaxTicks} {
		for _, tick := range []int{1, (ticks + 1) / 2, ticks} {
			for _, n := range []int{99, 100} {
				c := course{plainRules, slices.Repeat([]impl.Set{setOf(tick, 4)}, n), nil, ticks}
				c.sets[n-1].Value = -9
				wantAccepted(t, fmt.Sprintf("%d values in tick %d of %d", n, tick, ticks), c)
				if got := c.run()[tick-1].Box; got != boxOf(n, -9, 0, tick, 0) {
					t.Errorf("%d values in tick %d of %d: %+v", n, tick, ticks, got)
				}
			}
			for _, n := range []int{101, 102, 200} {
				c := course{plainRules, slices.Repeat([]impl.Set{setOf(tick, 4)}, n), nil, ticks}
				wantRefused(t, fmt.Sprintf("%d values in tick %d of %d", n, tick, ticks), c)
			}
		}
	}
	full := slices.Concat(slices.Repeat([]impl.Set{setOf(1, 4)}, 100), slices.Repeat([]impl.Set{setOf(2, 5)}, 100))
	wantAccepted(t, "100 values in each of two ticks", course{plainRules, full, nil, 2})
	full[99].Tick = 2
	wantRefused(t, "99 values in one tick, 101 in the next", course{plainRules, full, nil, 2})
	wantAccepted(t, "99 values in one tick, 100 in the next", course{plainRules, full[:199], nil, 2})
}

// comingToTrain is a run in which that many packets come to the train in tick 202, ten copies of each that the box sent before.
func comingToTrain(n, ticks int) course {
	c := course{rules: impl.Rules{Every: 1, Silent: 1000, Age: 1000}, sets: []impl.Set{setOf(1, 5), setOf(7, 6)}, ticks: ticks}
	for i := 0; n > 0; i++ {
		c.fates = append(c.fates, repeated(201-i, min(n, 10)))
		n -= min(n, 10)
	}
	return c
}

// comingToBox is a run in which that many answers come to the box in tick 152, ten copies of each. In tick 151 the train takes the packets 0 to 149, the box sends 150, and the train answers by 151 and on.
func comingToBox(n, ticks int) course {
	c := course{rules: impl.Rules{Every: 1, Silent: 1000, Age: 1000}, sets: []impl.Set{setOf(1, 5), setOf(7, 6)}, ticks: ticks}
	for i := range 150 {
		c.fates = append(c.fates, []int{150 - i})
	}
	c.fates = append(c.fates, nil)
	for n > 0 {
		c.fates = append(c.fates, repeated(1, min(n, 10)))
		n -= min(n, 10)
	}
	return c
}

func TestRunLimitsOfWhatComesInOneTick(t *testing.T) {
	for _, n := range []int{990, 999, 1000} {
		for _, ticks := range []int{201, 202, 203, 400} {
			wantAccepted(t, fmt.Sprintf("%d come to the train, %d ticks", n, ticks), comingToTrain(n, ticks))
		}
		for _, ticks := range []int{151, 152, 153, 400} {
			wantAccepted(t, fmt.Sprintf("%d come to the box, %d ticks", n, ticks), comingToBox(n, ticks))
		}
	}
	if got := comingToTrain(1000, 202).run(); got[201].Taken != 100 || got[201].Train != trainOf(2, 6, 100) {
		t.Errorf("1000 come to the train: %+v", got[201])
	}
	if got := comingToBox(1000, 152).run(); got[150].Taken != 150 || got[151].Box != boxOf(2, 6, 2, 152, 100) {
		t.Errorf("1000 come to the box: %+v, %+v", got[150], got[151])
	}
	for _, n := range []int{1001, 1002, 1010, 1400} {
		// What comes behind the last tick comes in no tick.
		wantAccepted(t, fmt.Sprintf("%d would come to the train", n), comingToTrain(n, 201))
		wantAccepted(t, fmt.Sprintf("%d would come to the box", n), comingToBox(n, 151))
		for _, ticks := range []int{202, 203, 400, impl.MaxTicks} {
			wantRefused(t, fmt.Sprintf("%d come to the train, %d ticks", n, ticks), comingToTrain(n, ticks))
		}
		for _, ticks := range []int{152, 153, 400, impl.MaxTicks} {
			wantRefused(t, fmt.Sprintf("%d come to the box, %d ticks", n, ticks), comingToBox(n, ticks))
		}
	}
}

// In tick 152 there come 1000 to the box and 1000 to the train: each end has the limit for itself.
func TestRunLimitIsOfEachEnd(t *testing.T) {
	c := comingToBox(1000, 160)
	for i, more := 0, 1000; more > 0; i++ {
		n := min(more, 9)
		c.fates[i] = append(c.fates[i], repeated(151-i, n)...)
		more -= n
	}
	wantAccepted(t, "1000 to each end", c)
	c.fates[150] = []int{1}
	wantRefused(t, "1000 to the box and 1001 to the train", c)
}
