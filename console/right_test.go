package console

import (
	"testing"

	"inkhorn/api"
)

// TestRight asks what a cluster never gives reason for.
func TestRight(t *testing.T) {
	words := []string{"a", "b"}
	good := api.Told{ID: 1, Query: api.Query{Text: "a", K: 0, N: 1}, Items: []api.Item{{Word: "a"}}, Done: true}
	bad := good
	bad.Items = []api.Item{{Word: "b"}}
	if !right(words, nil) || !right(words, []api.Told{good, good}) || right(words, []api.Told{good, bad}) || right(words, []api.Told{bad, good}) {
		t.Error("P30.1: !right")
	}
	if yesOrNo(true) != "yes" || yesOrNo(false) != "no" {
		t.Error("P30.1: yes and no")
	}
}
