package ints

import (
	"slices"

	"catchment/bits"
	"catchment/varint"
)

// putPlaces writes the codec that tells the unlike numbers once, and of each number its place among them.
func putPlaces(l []int64) []byte {
	unlike := slices.Clone(l)
	slices.Sort(unlike)
	unlike = slices.Compact(unlike)
	b := varint.Put(uint64(len(unlike)))
	b = append(b, putRising(unlike)...)
	return append(b, pack(placesAmong(unlike, l), placeWidth(len(unlike)))...)
}

func putRising(unlike []int64) []byte {
	var b []byte
	for i, v := range unlike {
		if i == 0 {
			b = append(b, varint.PutInt(v)...)
		} else {
			b = append(b, varint.Put(distance(unlike[i-1], v))...)
		}
	}
	return b
}

func placesAmong(unlike, l []int64) []uint64 {
	places := make([]uint64, len(l))
	for i, v := range l {
		place, _ := slices.BinarySearch(unlike, v)
		places[i] = uint64(place)
	}
	return places
}

// placeWidth is the least width in which each place among so many numbers fits.
func placeWidth(unlike int) int {
	if unlike == 0 {
		return 0
	}
	return bits.Width([]uint64{uint64(unlike - 1)})
}

// putHeights writes the codec that tells the least number, and of each number how far it is above that.
func putHeights(l []int64) []byte {
	if len(l) == 0 {
		return nil
	}
	least := slices.Min(l)
	heights := make([]uint64, len(l))
	for i, v := range l {
		heights[i] = distance(least, v)
	}
	width := bits.Width(heights)
	b := append(varint.PutInt(least), varint.Put(uint64(width))...)
	return append(b, pack(heights, width)...)
}

// distance is how far high is above low. It may be beyond int64, but never beyond uint64.
func distance(low, high int64) uint64 {
	return uint64(high) - uint64(low)
}

// pack packs numbers that are known to fit.
func pack(l []uint64, width int) []byte {
	b, _ := bits.Pack(l, width)
	return b
}
