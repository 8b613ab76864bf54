package column

import (
	"slices"

	"catchment/varint"
)

// bestTexts is the texts by whichever way has fewer bytes.
func bestTexts(l []string) []byte {
	each, places := eachText(l), textsByPlaces(l)
	if len(places) < len(each) {
		return places
	}
	return each
}

func eachText(l []string) []byte {
	return gather(func(put func(...byte)) {
		put(oneByOne)
		putLengthsAndBytes(put, l)
	})
}

// textsByPlaces tells the unlike texts once, and of each text its place among them.
func textsByPlaces(l []string) []byte {
	unlike := slices.Clone(l)
	slices.Sort(unlike)
	unlike = slices.Compact(unlike)
	return gather(func(put func(...byte)) {
		put(byPlaces)
		put(varint.Put(uint64(len(unlike)))...)
		putLengthsAndBytes(put, unlike)
		put(best(placesAmong(unlike, l))...)
	})
}

func putLengthsAndBytes(put func(...byte), l []string) {
	lengths := make([]int64, len(l))
	for i, s := range l {
		lengths[i] = int64(len(s))
	}
	put(counted(lengths)...)
	for _, s := range l {
		put([]byte(s)...)
	}
}

func placesAmong(unlike, l []string) []int64 {
	places := make([]int64, len(l))
	for i, s := range l {
		place, _ := slices.BinarySearch(unlike, s)
		places[i] = int64(place)
	}
	return places
}
