// Package layers holds what the layers call against the document's map.
package layers

import (
	"go/parser"
	"go/token"
	"path/filepath"
	"slices"
	"strconv"
	"strings"
	"testing"
)

// calls are the layers' packages, and the layers that each calls; each may call api, too.
var calls = map[string]string{
	"fault":   "",
	"wire":    "fault",
	"crc":     "",
	"frame":   "crc fault wire",
	"record":  "fault wire",
	"batch":   "fault record wire",
	"rpc":     "batch fault frame wire",
	"block":   "fault",
	"chain":   "block fault",
	"slot":    "block fault",
	"mlog":    "batch block chain fault slot wire",
	"snaps":   "block chain fault slot wire",
	"spans":   "fault",
	"quorum":  "batch fault spans",
	"image":   "fault record",
	"dump":    "fault image record wire",
	"place":   "fault",
	"elect":   "fault image",
	"lease":   "elect fault image",
	"admin":   "elect fault image place record",
	"move":    "admin elect fault image place",
	"ask":     "fault frame record wire",
	"control": "admin ask elect fault image lease move",
	"delta":   "image",
	"keeper":  "batch block fault mlog quorum slot snaps wire",
	"node":    "block control dump fault image keeper quorum",
	"broker":  "delta dump fault image place quorum record",
	"client":  "ask fault",
	"cluster": "block broker client fault node rpc",
	"trace":   "fault image",
	"script":  "client fault record",
	"balance": "fault move place",
}

// library are the packages of the library that the language's rules allow.
var library = strings.Fields("bytes cmp container/heap errors iter maps math math/bits slices sort strconv strings sync sync/atomic unicode unicode/utf8")

// imports are the paths that the files of a package import, its tests aside.
func imports(t *testing.T, name string) []string {
	t.Helper()
	files, err := filepath.Glob(filepath.Join("..", name, "*.go"))
	if err != nil {
		t.Fatal(err)
	}
	files = slices.DeleteFunc(files, func(f string) bool { return strings.HasSuffix(f, "_test.go") })
	if len(files) == 0 {
		t.Fatalf("%s has no files", name)
	}
	var paths []string
	for _, f := range files {
		file, err := parser.ParseFile(token.NewFileSet(), f, nil, parser.ImportsOnly)
		if err != nil {
			t.Fatal(err)
		}
		for _, spec := range file.Imports {
			path, err := strconv.Unquote(spec.Path.Value)
			if err != nil {
				t.Fatal(err)
			}
			paths = append(paths, path)
		}
	}
	return paths
}

// TestCalls: each layer calls api and those that the map names alone, and of the library what the language's rules allow.
func TestCalls(t *testing.T) {
	if len(calls) != 32 {
		t.Errorf("%d layers", len(calls))
	}
	for name, below := range calls {
		allowed := append(strings.Fields(below), "api")
		for _, path := range imports(t, name) {
			own, is := strings.CutPrefix(path, "castellan/")
			if is && !slices.Contains(allowed, own) || !is && !slices.Contains(library, path) {
				t.Errorf("%s imports %s", name, path)
			}
		}
	}
}
