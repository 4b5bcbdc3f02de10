package scope

// Builtin says whether there is a function built in of that name, with so many arguments.
func Builtin(name string, arity int) bool {
	switch arity {
	case 0:
		return builtinAlone(name)
	case 1:
		return builtinWithOne(name)
	case 2:
		return name == "range" || name == "setpath"
	}
	return false
}

func builtinAlone(name string) bool {
	switch name {
	case "empty", "error", "length", "utf8bytelength", "not", "keys", "type",
		"tostring", "tonumber", "tojson", "fromjson",
		"ascii_downcase", "ascii_upcase", "explode", "implode",
		"reverse", "sort", "min", "max", "unique",
		"add", "flatten", "transpose", "abs", "toarray":
		return true
	}
	return false
}

func builtinWithOne(name string) bool {
	switch name {
	case "error", "path", "has", "contains",
		"startswith", "endswith", "ltrimstr", "rtrimstr", "split", "join", "indices",
		"_sort_by", "_group_by", "_unique_by", "_min_by", "_max_by",
		"getpath", "delpaths":
		return true
	}
	return false
}

// taken says whether a function has a name that changes are made of, and which is always the one that is built in.
func taken(x name) bool {
	switch x {
	case function("path", 1), function("getpath", 1), function("setpath", 2):
		return true
	}
	return false
}
