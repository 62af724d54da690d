package tests

import (
	"testing"

	"loop.example/tideline/impl"
)

func TestTimeOk(t *testing.T) {
	if impl.TimeMax != 7 {
		t.Errorf("TimeMax is %d", impl.TimeMax)
	}
	for _, s := range allTimes() {
		if !impl.TimeOk(s) {
			t.Errorf("%s is not ok", tell(s))
		}
	}
	for _, s := range badTimes() {
		if impl.TimeOk(s) {
			t.Errorf("%s is ok", tell(s))
		}
	}
}

func TestTimeLess(t *testing.T) {
	cases := []struct {
		s, u impl.Time
		want bool
	}{
		{at(0, 0), at(0, 0), true},
		{at(7, 7), at(7, 7), true},
		{at(0, 0), at(7, 7), true},
		{at(7, 7), at(0, 0), false},
		{at(2, 3), at(2, 4), true},
		{at(2, 3), at(3, 3), true},
		{at(2, 4), at(2, 3), false},
		{at(3, 3), at(2, 3), false},
		{at(0, 7), at(7, 0), false},
		{at(7, 0), at(0, 7), false},
		{at(1, 2), at(2, 1), false},
	}
	for _, c := range cases {
		if got := impl.TimeLess(c.s, c.u); got != c.want {
			t.Errorf("TimeLess of %s and %s is %t", tell(c.s), tell(c.u), got)
		}
	}
	ups := upsets()
	for _, s := range allTimes() {
		for _, u := range allTimes() {
			if impl.TimeLess(s, u) != holds(ups[placeOf(s)], u) {
				t.Errorf("TimeLess of %s and %s", tell(s), tell(u))
			}
		}
	}
}

func TestJoinAndMeet(t *testing.T) {
	cases := []struct{ s, u, join, meet impl.Time }{
		{at(1, 4), at(3, 2), at(3, 4), at(1, 2)},
		{at(0, 7), at(7, 0), at(7, 7), at(0, 0)},
		{at(0, 0), at(7, 7), at(7, 7), at(0, 0)},
		{at(5, 2), at(5, 6), at(5, 6), at(5, 2)},
		{at(4, 4), at(4, 4), at(4, 4), at(4, 4)},
	}
	for _, c := range cases {
		if got := impl.TimeJoin(c.s, c.u); got != c.join {
			t.Errorf("TimeJoin of %s and %s is %s", tell(c.s), tell(c.u), tell(got))
		}
		if got := impl.TimeMeet(c.s, c.u); got != c.meet {
			t.Errorf("TimeMeet of %s and %s is %s", tell(c.s), tell(c.u), tell(got))
		}
	}
}

func TestWrongTimesAreNoneOfIt(t *testing.T) {
	check := func(s impl.Time, u impl.Time) {
		if impl.TimeLess(s, u) {
			t.Errorf("TimeLess of %s and %s", tell(s), tell(u))
		}
		if got := impl.TimeJoin(s, u); got != at(0, 0) {
			t.Errorf("TimeJoin of %s and %s is %s", tell(s), tell(u), tell(got))
		}
		if got := impl.TimeMeet(s, u); got != at(0, 0) {
			t.Errorf("TimeMeet of %s and %s is %s", tell(s), tell(u), tell(got))
		}
	}
	for _, s := range badTimes() {
		for _, u := range allTimes() {
			check(s, u)
			check(u, s)
		}
		for _, u := range badTimes() {
			check(s, u)
		}
	}
}

func TestPromise1JoinIsTheFirstNotEarlierThanBoth(t *testing.T) {
	ups := upsets()
	for _, s := range allTimes() {
		for _, u := range allTimes() {
			join := impl.TimeJoin(s, u)
			if !impl.TimeOk(join) {
				t.Fatalf("TimeJoin of %s and %s is not ok: %s", tell(s), tell(u), tell(join))
			}
			if ups[placeOf(join)] != ups[placeOf(s)]&ups[placeOf(u)] {
				t.Errorf("TimeJoin of %s and %s is %s", tell(s), tell(u), tell(join))
			}
		}
	}
}

func TestPromise2MeetIsTheLastNotLaterThanBoth(t *testing.T) {
	ups := upsets()
	for _, s := range allTimes() {
		for _, u := range allTimes() {
			meet := impl.TimeMeet(s, u)
			if !impl.TimeOk(meet) {
				t.Fatalf("TimeMeet of %s and %s is not ok: %s", tell(s), tell(u), tell(meet))
			}
			for _, v := range allTimes() {
				up := ups[placeOf(v)]
				if holds(up, meet) != (holds(up, s) && holds(up, u)) {
					t.Errorf("TimeMeet of %s and %s is %s, which %s tells apart", tell(s), tell(u), tell(meet), tell(v))
				}
			}
		}
	}
}

func TestPromise3TimesAreOrdered(t *testing.T) {
	for _, s := range allTimes() {
		for _, u := range allTimes() {
			if (impl.TimeLess(s, u) && impl.TimeLess(u, s)) != (s == u) {
				t.Errorf("%s and %s, either way", tell(s), tell(u))
			}
			if !impl.TimeLess(s, u) {
				continue
			}
			for _, v := range allTimes() {
				if impl.TimeLess(u, v) && !impl.TimeLess(s, v) {
					t.Errorf("%s, %s and %s, one behind the other", tell(s), tell(u), tell(v))
				}
				if impl.TimeLess(u, v) && impl.TimeLess(v, s) && (s != u || u != v) {
					t.Errorf("%s, %s and %s, in a round", tell(s), tell(u), tell(v))
				}
			}
		}
	}
}

func TestPromise4JoinAndMeetTakeOneAnotherUp(t *testing.T) {
	for _, s := range allTimes() {
		for _, u := range allTimes() {
			join, meet := impl.TimeJoin(s, u), impl.TimeMeet(s, u)
			if impl.TimeJoin(u, s) != join || impl.TimeMeet(u, s) != meet {
				t.Errorf("%s and %s: it matters which is first", tell(s), tell(u))
			}
			if impl.TimeJoin(s, meet) != s || impl.TimeMeet(s, join) != s || impl.TimeJoin(meet, s) != s || impl.TimeMeet(join, s) != s {
				t.Errorf("%s and %s are not taken up", tell(s), tell(u))
			}
			less := impl.TimeLess(s, u)
			if less != (join == u) || less != (meet == s) {
				t.Errorf("%s and %s: not later %t, join %s, meet %s", tell(s), tell(u), less, tell(join), tell(meet))
			}
		}
	}
}
