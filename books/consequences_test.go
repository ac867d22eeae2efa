package books_test

import (
	"fmt"
	"math/rand"
	"slices"
	"strings"
	"testing"

	"bipole/api"
	"bipole/books"
)

// P10.5, P11: the account of a with b is the opposite of that of b with a, accounts add up
// to balances, and these to 0.
func TestConsequencesOfAccounts(t *testing.T) {
	r := rand.New(rand.NewSource(1051))
	owed := 0
	for range 150 {
		l := randomJournal(r, 80)
		register, _, _ := books.Replay(l)
		total := 0
		for _, a := range register.Stations {
			sum := 0
			for _, b := range register.Stations {
				if a.Name == b.Name {
					continue
				}
				there, e := books.Account(l, a.Name, b.Name)
				is(t, brief(l), e, api.OK)
				back, _ := books.Account(l, b.Name, a.Name)
				is(t, "the account back of "+brief(l), back, -there)
				sum += there
				owed += min(1, max(0, there))
			}
			balance, _ := books.Balance(l, a.Name)
			is(t, "the balance of "+brief(l), balance, sum)
			total += balance
		}
		is(t, "all balances of "+brief(l), total, 0)
	}
	if owed < 50 {
		t.Errorf("only %d accounts are above 0", owed)
	}
}

// P10.5, P11: the bills and the settled hours have the same sums, and the same losses.
func TestConsequencesOfSums(t *testing.T) {
	r := rand.New(rand.NewSource(1052))
	seen := 0
	for range 150 {
		l := randomJournal(r, 80)
		register, _, _ := books.Replay(l)
		var byBills, byHours [3]int
		hours := 0
		bills, _ := books.Bills(l)
		for _, b := range bills {
			hours += b.Hours
			for i, n := range []int{b.Sent, b.Got, b.Money - b.Fine} {
				byBills[i] += n
			}
		}
		for hour := range register.Settled {
			sums, e := books.Hour(l, hour)
			is(t, brief(l), e, api.OK)
			for i, n := range sums {
				byHours[i] += n
			}
		}
		is(t, "the sums of "+brief(l), byBills, byHours)
		losses, e := books.Losses(l)
		is(t, brief(l), e == api.ErrZero, byHours[0] == 0)
		is(t, "the losses of "+brief(l), losses.Num*byHours[0], (byHours[0]-byHours[1])*losses.Den)
		seen += min(1, hours)
	}
	if seen < 50 {
		t.Errorf("only %d have hours that are settled", seen)
	}
}

// P10.5, P11: no station is ever loaded above its capacity.
func TestConsequencesOfRoom(t *testing.T) {
	r := rand.New(rand.NewSource(1053))
	full, none := 0, 0
	for range 100 {
		l := randomJournal(r, 80)
		for n := range len(l) + 1 {
			register, _, _ := books.Replay(l[:n])
			for _, x := range register.Stations {
				hour := register.Tick + r.Intn(6)
				room, e := books.Room(l[:n], x.Name, hour)
				is(t, brief(l[:n]), e, api.OK)
				if room < 0 || room > x.Limit {
					t.Errorf("the room of %s in the hour %d is %d after %s", x.Name, hour, room, brief(l[:n]))
				}
				full, none = full+min(1, x.Limit-room), none+1-min(1, room)
			}
		}
	}
	if full < 500 || none < 50 {
		t.Errorf("%d hours are not empty, %d are full", full, none)
	}
}

// P10.5, P11: a settled hour stays as it is, whatever comes later.
func TestConsequencesOfHours(t *testing.T) {
	r := rand.New(rand.NewSource(1054))
	settled := 0
	for range 100 {
		l := randomJournal(r, 80)
		var hours [][3]int
		for n := range len(l) + 1 {
			for hour := range hours {
				sums, e := books.Hour(l[:n], hour)
				is(t, brief(l[:n]), e, api.OK)
				is(t, fmt.Sprint("the hour ", hour, " after ", brief(l[:n])), sums, hours[hour])
			}
			register, _, _ := books.Replay(l[:n])
			for hour := len(hours); hour < register.Settled; hour++ {
				sums, _ := books.Hour(l[:n], hour)
				hours = append(hours, sums)
			}
			is(t, "the hours after "+brief(l[:n]), len(hours), register.Settled)
		}
		settled += len(slices.DeleteFunc(hours, func(sums [3]int) bool { return sums == [3]int{} }))
	}
	if settled < 100 {
		t.Errorf("only %d hours are settled", settled)
	}
}

// P10.5: an undo leaves the register that was before, and after it all is accepted that
// was accepted then.
func TestConsequencesOfUndos(t *testing.T) {
	r := rand.New(rand.NewSource(1055))
	undone := 0
	for range 100 {
		l := randomJournal(r, 40)
		for n := range l {
			before, _, _ := books.Replay(l[:n])
			if l[n].Kind == "undo" {
				continue
			}
			with := after(l[:n+1], "undo")
			back, _, e := books.Replay(with)
			if is(t, brief(with), e == api.ErrRule, l[n].Kind == "settle"); e != api.OK {
				continue
			}
			undone++
			isRegister(t, "undone: "+brief(with), back, before)
			again := l[n]
			again.Number = len(with) + 1
			is(t, "again after "+brief(with), books.Accepts(with, again), api.OK)
			other := randomEvent(r, modelOf(l[:n]), n+1)
			want := books.Accepts(l[:n], other)
			other.Number = len(with) + 1
			is(t, fmt.Sprint(other, " after ", brief(with)), books.Accepts(with, other), want)
		}
	}
	if undone < 500 {
		t.Errorf("only %d events are undone", undone)
	}
}

// about returns what a register has of a station: its orders, their meters, its outages
// and their permits.
func about(r books.Register, station string) books.Register {
	names := map[string]bool{}
	var own books.Register
	for _, x := range r.Orders {
		if x.From == station || x.To == station {
			own.Orders, names["order "+x.Name] = append(own.Orders, x), true
		}
	}
	for _, x := range r.Meters {
		if names["order "+x.Order] {
			own.Meters = append(own.Meters, x)
		}
	}
	for _, x := range r.Outages {
		if x.Station == station {
			own.Outages, names["outage "+x.Name] = append(own.Outages, x), true
		}
	}
	for _, x := range r.Permits {
		if names["outage "+x.Outage] {
			own.Permits = append(own.Permits, x)
		}
	}
	return own
}

// P10.5: the story of a station is accepted, and leads to the same orders, meters,
// outages and permits of it, and to no others.
func TestConsequencesOfStories(t *testing.T) {
	r := rand.New(rand.NewSource(1056))
	orders, permits := 0, 0
	for range 200 {
		l := randomJournal(r, 80)
		register, _, _ := books.Replay(l)
		for _, x := range register.Stations {
			story, e := books.Story(l, x.Name)
			is(t, brief(l), e, api.OK)
			alone, at, e := books.Replay(story)
			is(t, "the story "+brief(story), at, 0)
			is(t, "the story "+brief(story), e, api.OK)
			want := about(register, x.Name)
			want.Tick, want.Stations = alone.Tick, register.Stations
			isRegister(t, x.Name+" in "+brief(l), alone, want)
			again, _ := books.Story(story, x.Name)
			isEvents(t, "the story of the story", again, story)
			orders, permits = orders+len(want.Orders), permits+len(want.Permits)
		}
	}
	if orders < 200 || permits < 100 {
		t.Errorf("%d orders and %d permits are in stories", orders, permits)
	}
}

// P10.5, P11: a log of which a byte is changed to another one, neither of which is a line
// feed, is not recovered as a whole: it is up to the record of this byte.
func TestConsequencesOfChangedBytes(t *testing.T) {
	r := rand.New(rand.NewSource(1057))
	for range 30 {
		log := []byte(logOf(randomJournal(r, 15)))
		for i, was := range log {
			for _, b := range []byte{byte(r.Intn(256)), was ^ 1<<r.Intn(8), '0' + byte(r.Intn(10)), '#', ' '} {
				if was == '\n' || b == '\n' || b == was {
					continue
				}
				log[i] = b
				_, n, e := books.Recover(string(log))
				if log[i] = was; e == api.OK || n > i {
					t.Errorf("byte %d of %q as %d: got %d, %v", i, log, b, n, e)
				}
			}
		}
	}
}

// P10.5, P11: after a crash a session has every event of the whole records, and goes on
// from there.
func TestConsequencesOfCrashes(t *testing.T) {
	r := rand.New(rand.NewSource(1058))
	for range 30 {
		l := randomJournal(r, 20)
		log := logOf(l)
		for n := range len(log) + 1 {
			whole := l[:strings.Count(log[:n], "\n")]
			s, e := books.Open(log[:n])
			is(t, brief(log[:n]), e, api.OK)
			isEvents(t, brief(log[:n]), s.Events(), whole)
			is(t, brief(log[:n]), s.Log(), logOf(whole))
			for _, e := range l[len(whole):min(len(l), len(whole)+2)] {
				isDone(t, s, lineOf(e), fmt.Sprint("done ", e.Number), api.OK)
			}
		}
	}
}

// P10.5, P11: a session whose log is reopened after each line is as one that is not.
func TestConsequencesOfReopening(t *testing.T) {
	r := rand.New(rand.NewSource(1059))
	for range 50 {
		l := randomJournal(r, 60)
		s, other, log := books.New(), books.New(), ""
		for _, e := range l {
			isDone(t, s, lineOf(e), fmt.Sprint("done ", e.Number), api.OK)
			isDone(t, other, lineOf(e), fmt.Sprint("done ", e.Number), api.OK)
			next, bad := books.Append(log, e)
			is(t, "append", bad, api.OK)
			is(t, "the log of the session", other.Log(), next)
			other, bad = books.Open(next + lineOf(e))
			is(t, "open", bad, api.OK)
			log = next
		}
		is(t, "the log", other.Log(), s.Log())
		isEvents(t, "the events", other.Events(), l)
		isAnswered(t, other, l)
	}
}
