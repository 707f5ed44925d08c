package tests

import (
	"slices"
	"testing"
)

// draws is a fixed row of numbers, so that what fails once fails again.
type draws struct{ state uint64 }

func (d *draws) next() uint64 {
	d.state += 0x9e3779b97f4a7c15
	z := d.state
	z = (z ^ z>>30) * 0xbf58476d1ce4e5b9
	z = (z ^ z>>27) * 0x94d049bb133111eb
	return z ^ z>>31
}

func (d *draws) between(least int, most int) int {
	return least + int(d.next()%uint64(most-least+1))
}

func (d *draws) oneOf(list []int) int {
	return list[d.between(0, len(list)-1)]
}

func expect[T comparable](t *testing.T, what string, got T, want T) {
	t.Helper()
	if got != want {
		t.Errorf("%s: got %v, want %v", what, got, want)
	}
}

// roomy is a copy of a list with room behind its end, in which what is written is seen: a mark stands there.
func roomy[T any](list []T, mark T) []T {
	return append(slices.Clone(list), mark, mark, mark)[:len(list)]
}

// untouched holds that nothing was written into a list of roomy, nor behind its end.
func untouched[T comparable](t *testing.T, what string, list []T, was []T, mark T) {
	t.Helper()
	room := list[:len(list)+3]
	if !slices.Equal(room[:len(list)], was) || !slices.Equal(room[len(list):], []T{mark, mark, mark}) {
		t.Errorf("%s: written into what was handed in: %v, was %v", what, room, was)
	}
}

// apart holds that two lists share no memory, spare room included.
func apart[T any](t *testing.T, what string, a []T, b []T) {
	t.Helper()
	for i := range a[:cap(a)] {
		for j := range b[:cap(b)] {
			if &a[:cap(a)][i] == &b[:cap(b)][j] {
				t.Fatalf("%s: place %d of one list is place %d of the other one", what, i, j)
			}
		}
	}
}

func expectList[T comparable](t *testing.T, what string, got []T, want []T) {
	t.Helper()
	if !slices.Equal(got, want) {
		t.Errorf("%s: got %v, want %v", what, got, want)
	}
}

// edits are texts that come of a text by one byte more, one less, or another one, and by two that change places.
func edits(text string, bytes string) []string {
	var list []string
	for i := range len(text) + 1 {
		for _, b := range []byte(bytes) {
			list = append(list, text[:i]+string([]byte{b})+text[i:])
			if i < len(text) {
				list = append(list, text[:i]+string([]byte{b})+text[i+1:])
			}
		}
		if i < len(text) {
			list = append(list, text[:i]+text[i+1:], text[:i]+text[i:i+1]+text[i:])
		}
		if i+1 < len(text) {
			list = append(list, text[:i]+text[i+1:i+2]+text[i:i+1]+text[i+2:])
		}
	}
	return list
}
