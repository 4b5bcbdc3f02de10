package prim

import "hallmark/api"

// mostArguments is how many arguments a primitive may take.
const mostArguments = 2

// primitives are what those with so many arguments make of their input, by their names: a value, or nothing (false), if no row of theirs fits.
func primitives(arguments int) map[string]func(in input) (v api.Value, fits bool) {
	switch arguments {
	case 0:
		return map[string]func(in input) (v api.Value, fits bool){
			"abs":            input.unsigned,
			"add":            input.sum,
			"ascii_downcase": input.lower,
			"ascii_upcase":   input.upper,
			"explode":        input.runes,
			"flatten":        input.flat,
			"fromjson":       input.read,
			"implode":        input.ofRunes,
			"keys":           input.keys,
			"length":         input.length,
			"max":            input.greatest,
			"min":            input.least,
			"not":            input.not,
			"reverse":        input.reversed,
			"sort":           input.sorted,
			"toarray":        input.asArray,
			"tojson":         input.plain,
			"tonumber":       input.asNumber,
			"tostring":       input.asText,
			"transpose":      input.transposed,
			"type":           input.kind,
			"unique":         input.unique,
			"utf8bytelength": input.bytes,
		}
	case 1:
		return map[string]func(in input) (v api.Value, fits bool){
			"_group_by":  input.groupedBy,
			"_max_by":    input.greatestBy,
			"_min_by":    input.leastBy,
			"_sort_by":   input.sortedBy,
			"_unique_by": input.uniqueBy,
			"contains":   input.holds,
			"delpaths":   input.without,
			"endswith":   input.ends,
			"getpath":    input.under,
			"has":        input.has,
			"indices":    input.places,
			"join":       input.joined,
			"ltrimstr":   input.cutFront,
			"rtrimstr":   input.cutBack,
			"split":      input.split,
			"startswith": input.begins,
		}
	case mostArguments:
		return map[string]func(in input) (v api.Value, fits bool){"setpath": input.with}
	}
	return nil
}
