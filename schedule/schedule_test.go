package schedule

import (
	"reflect"
	"testing"

	"acequia/api"
)

func district() api.District {
	d := api.District{Hours: 6}
	for i := range 3 {
		d.Reaches = append(d.Reaches, api.Reach{Up: i - 1, Delay: 1, Evap: api.Range{Hi: 2}, Seep: [2]api.Ratio{{D: 1}, {D: 1}}})
	}
	return d
}

// The least parcels, from the last reach up to the reservoir.
func TestOf(t *testing.T) {
	d := district()
	d.Reaches[1].Siphon = 20
	s := Of(d, map[Place]int{{2, 4}: 5, {0, 2}: 3})
	want := map[Place]api.Parcel{
		{2, 3}: {Reach: 2, Hour: 3, Litres: 7, Wanted: 5}, {1, 2}: {Reach: 1, Hour: 2, Litres: 20, Wanted: 7}, {0, 1}: {Reach: 0, Hour: 1, Litres: 25, Wanted: 23},
	}
	if !reflect.DeepEqual(s.Parcels, want) || len(s.Late) != 0 {
		t.Errorf("%v", s)
	}
}

// What is not known above a late parcel is no fault of its own.
func TestLate(t *testing.T) {
	s := Of(district(), map[Place]int{{2, 1}: 5, {0, 0}: 3, {1, 4}: 1 << 30, {0, 3}: 4, {2, 5}: 1})
	want := []api.Fault{{Kind: api.LateF, Hour: 4, Index: 1, Litres: 1<<30 + 3}, {Kind: api.LateF, Hour: 0, Index: 1, Litres: 7}, {Kind: api.LateF, Hour: 0, Index: 0, Litres: 3}}
	late := map[api.Fault]bool{}
	for _, f := range s.Late {
		late[f] = true
	}
	for _, f := range want {
		if !late[f] {
			t.Errorf("%v is missing in %v", f, s.Late)
		}
	}
	if _, ok := s.Parcels[Place{0, 2}]; ok || len(s.Late) != len(want) || len(s.Parcels) != 2 {
		t.Errorf("%v", s)
	}
}

// An intake is what losses and a siphon need.
func TestIntake(t *testing.T) {
	r := district().Reaches[0]
	r.Siphon = 10
	for w, want := range map[int]int{0: 0, 1: 10, 8: 10, 9: 11} {
		if v, ok := Intake(r, w); v != want || !ok {
			t.Errorf("Intake(%d) = %d", w, v)
		}
	}
	for _, w := range []int{1 << 30, 1<<30 + 1} {
		if v, ok := Intake(r, w); ok || v != 0 {
			t.Errorf("Intake(%d) = %d", w, v)
		}
	}
}
