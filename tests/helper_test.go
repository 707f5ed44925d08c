package tests

import "testing"

// draws is a fixed row of numbers, so that what fails once fails again.
type draws struct{ state uint64 }

func (d *draws) next() uint64 {
	d.state += 0x9e3779b97f4a7c15
	z := d.state
	z = (z ^ z>>30) * 0xbf58476d1ce4e5b9
	z = (z ^ z>>27) * 0x94d049bb133111eb
	return z ^ z>>31
}

func (d *draws) between(least int, most int) int {
	return least + int(d.next()%uint64(most-least+1))
}

func (d *draws) oneOf(list []int) int {
	return list[d.between(0, len(list)-1)]
}

func expect[T comparable](t *testing.T, what string, got T, want T) {
	t.Helper()
	if got != want {
		t.Errorf("%s: got %v, want %v", what, got, want)
	}
}
