package tests

import (
	"fmt"
	"math"
	"slices"
	"testing"

	"loop.example/g00089/impl"
)

func readOf(id int64, name string, group int64) impl.Ticket {
	return impl.Ticket{Id: id, Kind: impl.TicketRead, Name: name, Group: group}
}

func rebuildOf(id, group int64) impl.Ticket {
	return impl.Ticket{Id: id, Kind: impl.TicketRebuild, Group: group}
}

// ticketGiven is what TicketFault is given.
type ticketGiven struct {
	s impl.Shape
	t impl.Ticket
}

const (
	rankTicketId = rankShape + 1 + iota
	rankTicketKind
	rankTicketFirst
	rankTicketSecond
	rankBehindTicket
)

func ticketGroup(t *impl.Ticket) *int64 { return &t.Group }

// anyTicketFlaws are those of both kinds.
func anyTicketFlaws() []flaw[impl.Ticket] {
	ids := numberFlaws("Id", rankTicketId, impl.ErrRange, 1, 1000000000, func(t *impl.Ticket) *int64 { return &t.Id })
	return append(ids, numberFlaws("Kind", rankTicketKind, impl.ErrText, 1, 2, func(t *impl.Ticket) *int64 { return &t.Kind })...)
}

func ticketName(rank int, code int64, names ...string) []flaw[impl.Ticket] {
	var flaws []flaw[impl.Ticket]
	for _, name := range names {
		flaws = append(flaws, flaw[impl.Ticket]{"name " + name, rank, code, func(t *impl.Ticket) { t.Name = name }})
	}
	return flaws
}

// readFlaws are of a ticket of the name a, whose home is the group 1 of middleShape.
func readFlaws() []flaw[impl.Ticket] {
	names := ticketName(rankTicketFirst, impl.ErrText, "", "A", "1a", "a-b", "a ", "ninebytes", "é", "\x80")
	homes := numberFlaws("Group", rankTicketSecond, impl.ErrForm, 1, 1, ticketGroup)
	homes = append(homes, numberFlaws("Group", rankTicketSecond, impl.ErrForm, 0, 2, ticketGroup)...)
	return slices.Concat(anyTicketFlaws(), names, homes)
}

func rebuildFlaws() []flaw[impl.Ticket] {
	groups := numberFlaws("Group", rankTicketFirst, impl.ErrRange, 0, 2, ticketGroup)
	return slices.Concat(anyTicketFlaws(), groups, ticketName(rankTicketSecond, impl.ErrForm, "a", "b", "A", "\x00", "ninebytes"))
}

func ticketFlawsOf(t impl.Ticket) []flaw[impl.Ticket] {
	if t.Kind == impl.TicketRead {
		return readFlaws()
	}
	return rebuildFlaws()
}

func TestTicketCodesAndTheirOrder(t *testing.T) {
	for _, ticket := range []impl.Ticket{readOf(1, "a", 1), readOf(1000000000, "a", 1), rebuildOf(1, 0), rebuildOf(7, 2), rebuildOf(1000000000, 1)} {
		given := func() ticketGiven { return ticketGiven{middleShape(), ticket} }
		flaws := lifted(badShapes(), rankShape, func(g *ticketGiven) *impl.Shape { return &g.s })
		flaws = append(flaws, lifted(ticketFlawsOf(ticket), 0, func(g *ticketGiven) *impl.Ticket { return &g.t })...)
		wantFlaws(t, "TicketFault", given, flaws, func(t *testing.T, what string, g ticketGiven, code int64) {
			t.Helper()
			if got := impl.TicketFault(g.s, g.t); got != code {
				t.Errorf("%s: %+v: code %d, want %d", what, g, got, code)
			}
		})
	}
	if got := impl.TicketFault(impl.Shape{}, impl.Ticket{}); got != impl.ErrRange {
		t.Errorf("nothing: code %d", got)
	}
	if got := impl.TicketFault(middleShape(), impl.Ticket{}); got != impl.ErrRange {
		t.Errorf("a ticket of nothing: code %d", got)
	}
}

// plainTicketCode is by the document, of a shape without a fault.
func plainTicketCode(s impl.Shape, t impl.Ticket) int64 {
	switch {
	case t.Id < 1 || t.Id > 1000000000:
		return impl.ErrRange
	case t.Kind == 2 && (t.Group < 0 || t.Group >= s.Groups+s.Column):
		return impl.ErrRange
	case t.Kind == 2:
		return okOr(impl.ErrForm, t.Name == "")
	case t.Kind != 1 || impl.NameFault(t.Name) != impl.OK:
		return impl.ErrText
	}
	sum := int64(0)
	for _, b := range []byte(t.Name) {
		sum += int64(b)
	}
	return okOr(impl.ErrForm, t.Group == sum%s.Groups)
}

// groupShapes has every number of groups of data and of parity.
func groupShapes() []impl.Shape {
	var shapes []impl.Shape
	for groups := int64(1); groups <= 4; groups++ {
		for column := range int64(3) {
			s := middleShape()
			s.Groups, s.Column, s.Queue = groups, column, 1+(groups+column)%6
			shapes = append(shapes, s)
		}
	}
	return shapes
}

func TestTicketsOfAllGroups(t *testing.T) {
	ids := []int64{math.MinInt64, -1, 0, 1, 2, 999999999, 1000000000, 1000000001, 1<<32 + 1, math.MaxInt64}
	groups := []int64{math.MinInt64, -1 << 32, -1, 0, 1, 2, 3, 4, 5, 6, 1 << 32, math.MaxInt64}
	names := []string{"", "a", "b", "c", "d", "zz9", "a0000000", "zzzzzzzz", "zzzzzzzzz", "0a", "B", "é"}
	for _, s := range groupShapes() {
		for _, id := range ids {
			for kind := int64(-1); kind <= 4; kind++ {
				for _, name := range names {
					for _, group := range groups {
						ticket := impl.Ticket{Id: id, Kind: kind, Name: name, Group: group}
						if got, want := impl.TicketFault(s, ticket), plainTicketCode(s, ticket); got != want {
							t.Errorf("%v, %+v: code %d, want %d", s, ticket, got, want)
						}
					}
				}
			}
		}
	}
}

// A group of parity is rebuilt as others are, but no object is at home there.
func TestTicketsOfParity(t *testing.T) {
	s := greatestShape()
	for group := range int64(6) {
		if got := impl.TicketFault(s, rebuildOf(1, group)); got != impl.OK {
			t.Errorf("rebuild of %d: code %d", group, got)
		}
		for letter := 'a'; letter <= 'z'; letter++ {
			ticket := readOf(1, string(letter), group)
			if got, want := impl.TicketFault(s, ticket), okOr(impl.ErrForm, int64(letter)%4 == group); got != want {
				t.Errorf("%+v: code %d, want %d", ticket, got, want)
			}
		}
	}
}

func TestDeskConstants(t *testing.T) {
	got := []int64{impl.MaxAside, impl.MaxAnswers, impl.TicketRead, impl.TicketRebuild}
	if want := []int64{20, 200, 1, 2}; !slices.Equal(got, want) {
		t.Errorf("constants %v, want %v", got, want)
	}
}

func TestNewDesks(t *testing.T) {
	shapes := groupShapes()
	eachExtreme(func(s impl.Shape) { shapes = append(shapes, s) })
	for _, s := range append(shapes, leastShape(), greatestShape()) {
		got := impl.NewDesk(s)
		want := impl.Desk{Queues: make([][]impl.Ticket, s.Groups+s.Column), Next: 1}
		if got.Code != impl.OK || !same(got.Desk, want) {
			t.Errorf("%v: %+v", s, got)
		}
		if code := impl.DeskFault(s, got.Desk); code != impl.OK {
			t.Errorf("%v: a new desk has the fault %d", s, code)
		}
		wantNew(t, fmt.Sprint(s), func() impl.DeskResult { return impl.NewDesk(s) })
	}
	for _, s := range wrongShapesOfAll() {
		if got := impl.NewDesk(s); !same(got, impl.DeskResult{Code: impl.ErrRange}) {
			t.Errorf("%v: %+v", s, got)
		}
	}
}
