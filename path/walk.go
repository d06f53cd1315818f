package path

import (
	"slices"
	"strings"

	"shale/api"
)

// Walk goes along a path: step tells of a thing and a name the next thing, or, of a link, where it leads.
func Walk[T any](root T, path string, last bool, step func(at T, name string) (next T, link string, is bool, e api.Errno)) (T, api.Errno) {
	var none T
	coming, e := Split(path)
	if e != api.OK {
		return none, e
	}
	at, links := root, 0
	for len(coming) > 0 {
		next, link, is, e := step(at, coming[0])
		if e != api.OK {
			return none, e
		}
		coming = coming[1:]
		if !is || len(coming) == 0 && !last {
			at = next
			continue
		}
		if links == api.MaxLinks {
			return none, api.ErrLoop
		}
		links++
		if coming, e = follow(link, coming); e != api.OK {
			return none, e
		}
		if strings.HasPrefix(link, slash) {
			at = root
		}
	}
	return at, api.OK
}

// follow tells the names to come, once a link's stand ahead of them.
func follow(link string, coming []string) ([]string, api.Errno) {
	if link == "" {
		return nil, api.ErrPath
	}
	if !strings.HasPrefix(link, slash) {
		link = slash + link
	}
	names, e := Split(link)
	if e != api.OK {
		return nil, e
	}
	if len(names)+len(coming) > api.MaxDepth {
		return nil, api.ErrLong
	}
	return slices.Concat(names, coming), api.OK
}
