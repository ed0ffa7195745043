package pack_test

import (
	"slices"
	"testing"

	"tallyhouse/api"
	"tallyhouse/pack"
)

// roomy: as v, with spare room behind each list that a careless append would
// fill.
func roomy(v api.Vec) api.Vec {
	return api.Vec{
		Kind: v.Kind,
		Null: append(make([]bool, 0, len(v.Null)+9), v.Null...),
		N:    append(make([]int64, 0, len(v.N)+9), v.N...),
		S:    append(make([]string, 0, len(v.S)+9), v.S...),
	}
}

// whole: a copy of v with its spare room shown.
func whole(v api.Vec) api.Vec {
	return api.Vec{
		Kind: v.Kind,
		Null: slices.Clone(v.Null[:cap(v.Null)]),
		N:    slices.Clone(v.N[:cap(v.N)]),
		S:    slices.Clone(v.S[:cap(v.S)]),
	}
}

// spoil all that v's lists hold, spare room included.
func spoil(v api.Vec) {
	null, n, s := v.Null[:cap(v.Null)], v.N[:cap(v.N)], v.S[:cap(v.S)]
	for i := range null {
		null[i] = !null[i]
	}
	for i := range n {
		n[i] = ^n[i]
	}
	for i := range s {
		s[i] += "spoilt"
	}
}

func TestVecsAreLeftAsTheyAre(t *testing.T) {
	for _, a := range smallSamples() {
		v := roomy(a.vec())
		before := whole(v)
		for _, scheme := range a.schemes() {
			mustWrite(t, v, scheme)
		}
		if _, e := pack.Pack(v); e != api.OK || !same(whole(v), before) {
			t.Errorf("%v became %v, error %d", before, whole(v), e)
		}
	}
}

func TestBytesAreNotChangedLater(t *testing.T) {
	for _, a := range smallSamples() {
		for _, scheme := range a.schemes() {
			v := roomy(a.vec())
			packed := mustWrite(t, v, scheme)
			spoil(v)
			if packed != spelled(a, scheme) {
				t.Errorf("the bytes of %v by scheme %d changed with the vec", a.values, scheme)
			}
		}
	}
}

func TestAnswersAreNewMemory(t *testing.T) {
	for _, a := range smallSamples() {
		for _, scheme := range a.schemes() {
			packed := spelled(a, scheme)
			first, _ := pack.Read(packed)
			second, _ := pack.Read(packed)
			spoil(first)
			if again, _ := pack.Read(packed); !same(second, a.vec()) || !same(again, a.vec()) {
				t.Errorf("what is read of %v by scheme %d changed with what was read", a.values, scheme)
			}
			places, _ := pack.Find(packed, api.Ge, n(-1))
			want := slices.Clone(places)
			spoilPlaces(places)
			if again, _ := pack.Find(packed, api.Ge, n(-1)); !slices.Equal(again, want) {
				t.Errorf("what is found in %v by scheme %d changed with what was found", a.values, scheme)
			}
		}
	}
}

func spoilPlaces(places []int) {
	places = places[:cap(places)]
	for i := range places {
		places[i] = -7
	}
}
