package tag

import "greffier/api"

// The words of tags' values.
const (
	star   = "*"
	set    = "set"
	prefix = "prefix"
	span   = "range"
	above  = "g" // begins a range's lower end
	below  = "l" // begins its higher end
	closed = "e" // stands behind these, if the end counts itself
)

// orders are the orders' names.
var orders = [...]string{
	api.Alpha:   "alpha",
	api.Numeric: "numeric",
	api.Clock:   "time",
	api.Binary:  "binary",
	api.Date:    "date",
}
