// Package rules holds the layers' sources against the rules that no compiler knows: what they import, their layout, lines that the language leaves out.
package rules

import (
	"bytes"
	"go/format"
	"go/parser"
	"go/token"
	"os"
	"path/filepath"
	"slices"
	"strconv"
	"strings"
	"testing"
)

// layers tells of each package which others it may call (DOC.md, 'The map').
func layers() map[string]string {
	return map[string]string{
		"api":     "",
		"words":   "api",
		"hamming": "api words",
		"rail":    "api words",
		"chip":    "api words",
		"judge":   "api",
		"tags":    "api words rail",
		"leaf":    "api words hamming tags chip",
		"node":    "api words",
		"tnode":   "api",
		"object":  "api node tnode tags",
		"blocks":  "api",
		"log":     "api chip leaf node object blocks",
		"scan":    "api chip leaf object",
		"point":   "api words chip leaf log scan node",
		"volume":  "api chip log point scan node", // node: its chapter has headers looked at and packed by it
		"path":    "api node",
		"files":   "api chip scan volume path",
		"parcel":  "api words path files",
		"audit":   "api chip leaf scan object point",
		"image":   "api words chip",
		"desk":    "api words hamming rail chip judge tags leaf node tnode object blocks log scan point volume path files parcel audit image",
	}
}

const library = "bytes cmp container/heap errors iter maps math math/big math/bits slices sort strconv strings sync sync/atomic unicode unicode/utf8"

// sources tells a package's files but its tests.
func sources(t *testing.T, name string) []string {
	t.Helper()
	list, err := filepath.Glob(filepath.Join("..", name, "*.go"))
	if err != nil {
		t.Fatal(err)
	}
	list = slices.DeleteFunc(list, func(f string) bool { return strings.HasSuffix(f, "_test.go") })
	if len(list) == 0 {
		t.Errorf("the package %s has no sources", name)
	}
	return list
}

func TestImports(t *testing.T) {
	for name, below := range layers() {
		for _, file := range sources(t, name) {
			parsed, err := parser.ParseFile(token.NewFileSet(), file, nil, parser.ImportsOnly)
			if err != nil {
				t.Fatal(err)
			}
			for _, spec := range parsed.Imports {
				path, err := strconv.Unquote(spec.Path.Value)
				if err != nil {
					t.Fatal(err)
				}
				layer, own := strings.CutPrefix(path, "shale/")
				if own && !slices.Contains(strings.Fields(below), layer) || !own && !slices.Contains(strings.Fields(library), path) {
					t.Errorf("%s imports %s", file, path)
				}
			}
		}
	}
}

func TestLayout(t *testing.T) {
	for name := range layers() {
		for _, file := range sources(t, name) {
			text, err := os.ReadFile(file)
			if err != nil {
				t.Fatal(err)
			}
			laid, err := format.Source(text)
			if err != nil || !bytes.Equal(laid, text) {
				t.Errorf("%s has not gofmt's layout", file)
			}
			if bytes.Contains(text, []byte("//go:")) || bytes.Contains(text, []byte("// +build")) {
				t.Errorf("%s has a line that the language leaves out", file)
			}
		}
	}
}
