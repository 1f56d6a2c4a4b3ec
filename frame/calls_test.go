package frame_test

import (
	"go/parser"
	"go/token"
	"path/filepath"
	"slices"
	"strconv"
	"strings"
	"testing"
)

// TestCalls: the layer calls api, crc, fault and wire alone, and of the library what the language's rules allow.
func TestCalls(t *testing.T) {
	allowed := []string{"castellan/api", "castellan/crc", "castellan/fault", "castellan/wire", "bytes"}
	files, err := filepath.Glob("*.go")
	if err != nil || len(files) == 0 {
		t.Fatal(files, err)
	}
	for _, name := range files {
		if strings.HasSuffix(name, "_test.go") {
			continue
		}
		file, err := parser.ParseFile(token.NewFileSet(), name, nil, parser.ImportsOnly)
		if err != nil {
			t.Fatal(err)
		}
		for _, spec := range file.Imports {
			path, err := strconv.Unquote(spec.Path.Value)
			if err != nil || !slices.Contains(allowed, path) {
				t.Errorf("%s imports %s", name, spec.Path.Value)
			}
		}
	}
}
