package store

import (
	"maps"
	"slices"
	"strings"

	"despatch/api"
)

// values are values by their keys. The bytes of a value are never written to, so that copies may share them.
type values map[string][]byte

// do does pairs, one behind the other, whose memory is then the values'.
func (v values) do(list []api.Pair) {
	for _, p := range list {
		if p.Gone {
			delete(v, p.Key)
		} else {
			v[p.Key] = p.Value
		}
	}
}

// behind gives the values as they are when pairs are done, and leaves these as they are.
func (v values) behind(list []api.Pair) values {
	next := maps.Clone(v)
	next.do(list)
	return next
}

// keys gives the keys that begin with a text, rising.
func (v values) keys(front string) []string {
	var keys []string
	for key := range v {
		if strings.HasPrefix(key, front) {
			keys = append(keys, key)
		}
	}
	slices.Sort(keys)
	return keys
}

// pairs gives the pairs that make these values of nothing, by rising keys.
func (v values) pairs() []api.Pair {
	var list []api.Pair
	for _, key := range v.keys("") {
		list = append(list, api.Pair{Key: key, Value: v[key]})
	}
	return list
}
