package table_test

import (
	"fmt"
	"strings"

	"farebox/api"
)

// short tells rows in few words: of each the serial, the index, the value's ends, and of each flag the signature's ends.
func short(rows []api.Entry) string {
	var told []string
	for _, e := range rows {
		told = append(told, brief(e))
	}
	return "[" + strings.Join(told, ", ") + "]"
}

// brief tells an entry in few words.
func brief(e api.Entry) string {
	text := fmt.Sprintf("%d: %d (%d..%d)", e.Cert.Serial, e.Index, e.Value[0], e.Value[31])
	return text + flag(" frozen", e.Frozen, e.Freeze) + flag(" revoked", e.Revoked, e.Revoke)
}

// flag tells a flag that is up, or a signature beside one that is down.
func flag(name string, up bool, s api.Sig) string {
	if !up && s == (api.Sig{}) {
		return ""
	}
	return fmt.Sprintf("%s %v (%d..%d)", name, up, s[0], s[63])
}
