package dict

import (
	"cmp"
	"slices"

	"campanile/api"
	"campanile/types"
)

const (
	allRights = api.RRead | api.RWrite | api.RMap | api.RStore
	maxName   = 100 // bytes of an entry's name
)

// item is an entry with its value.
type item struct {
	api.Entry
	value []byte
}

// has: has the entry a right?
func (x item) has(right uint8) bool { return x.Rights&right != 0 }

// storedWith: is the entry stored with a group?
func (x item) storedWith(group uint8) bool { return x.has(api.RStore) && x.Group == group }

// check tells why bytes are no value within the entry's bounds; 0: they are.
func (x item) check(b []byte) api.Abort { return types.Check(x.Type, b, x.Low, x.High) }

// mayBe: may the entry be one of a dictionary?
func mayBe(e api.Entry) bool {
	mayBound := func(b []byte) bool { return len(b) == 0 || types.Check(e.Type, b, nil, nil) == 0 }
	switch {
	case !types.Right(e.Type), e.Rights > allRights, e.Group > api.MaxGroups, len(e.Name) > maxName:
		return false
	case !mayBound(e.Low), !mayBound(e.High):
		return false
	}
	return types.Check(e.Type, atFirst(e), e.Low, e.High) == 0
}

// atFirst tells an entry's value at first.
func atFirst(e api.Entry) []byte {
	if len(e.Default) > 0 {
		return e.Default
	}
	return types.Zero(e.Type)
}

// copyOf tells the entry in new memory.
func copyOf(e api.Entry) api.Entry {
	e.Default, e.Low, e.High = slices.Clone(e.Default), slices.Clone(e.Low), slices.Clone(e.High)
	return e
}

func placeOf(e api.Entry) api.Place { return api.Place{Index: e.Index, Sub: e.Sub} }

// comparePlaces tells the order of two places.
func comparePlaces(a, b api.Place) int {
	return cmp.Or(cmp.Compare(a.Index, b.Index), cmp.Compare(a.Sub, b.Sub))
}
