package integer

import (
	"strings"

	"foliot/api"
	"foliot/nat"
)

// Print tells an integer's digits.
func Print(a api.Int) string {
	if Sign(a) < 0 {
		return "-" + nat.Print(a.Mag)
	}
	return nat.Print(a.Mag)
}

// Parse tells the integer of a text.
func Parse(s string) (api.Int, api.Errno) {
	put := above.put
	if digits, ok := strings.CutPrefix(s, "-"); ok {
		put, s = below.put, digits
	}
	mag, err := nat.Parse(s)
	if err != api.OK {
		return api.Int{}, err
	}
	return put(mag), api.OK
}
