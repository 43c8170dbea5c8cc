package token

import (
	"strconv"

	"seneschal/api"
	"seneschal/json"
)

// member of an object.
type member struct {
	key   string
	value api.Json
}

// text: a member that is one.
func text(key, s string) member { return member{key, api.Json{Kind: api.JsonText, Text: s}} }

// number: a member that is one.
func number(key string, n int) member {
	return member{key, api.Json{Kind: api.JsonNumber, Text: strconv.Itoa(n)}}
}

// lay: the object of rows of members, one row behind the other.
func lay(rows ...[]member) api.Json {
	v := api.Json{Kind: api.JsonObject}
	for _, row := range rows {
		for _, m := range row {
			v.Keys = append(v.Keys, m.key)
			v.List = append(v.List, m.value)
		}
	}
	return v
}

// form of a value; empty, which is none's, if it has none.
func form(v api.Json) string {
	s, _ := json.Print(v)
	return s
}
